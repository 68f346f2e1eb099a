/- xors.Put: its contract. -/
import Derived.Test.YtanljjpjhihgcaaDoorXoTz
import Derived.Test.YtanljjpjhihgcaaDoorPkPut
namespace BitM
open Go.Proofs.YtanljjpjhihgcaaDoor
/-- A number of so many bits more. -/
def stp (s : Nat × Nat) (q : Nat × Int) : Nat × Nat := (s.1 + wi q.2, s.2 * 2 ^ wi q.2 + q.1 % 2 ^ wi q.2)
/-- What is laid of a change. -/
def xch (x : Nat) : List (Nat × Int) := if x = 0 then [(0, 1)] else [(1, 1), (64 - lenB x, 6), (lenB x - tz x - 1, 6), (x / 2 ^ tz x, ((lenB x - tz x : Nat) : Int))]
def xadd (s : Nat × Nat) (x : Nat) : Nat × Nat := (xch x).foldl stp s
/-- The bits of values, up to so many changes. -/
def xt (l : List Nat) : Nat → Nat × Nat
  | 0 => stp (0, 0) (l.getD 0 0, 64)
  | k + 1 => xadd (xt l k) (l.getD (k + 1) 0 ^^^ l.getD k 0)
/-- The bytes of values. -/
def xb (l : List Nat) : List UInt8 := if l = [] then [] else bytesW (xt l (l.length - 1)).1 (xt l (l.length - 1)).2
theorem xadd_zero (L V : Nat) : xadd (L, V) 0 = (L + 1, V * 2 ^ 1 + 0 % 2 ^ 1) := rfl
theorem xadd_some (x n L V L1 V1 L2 V2 L3 V3 L4 V4 : Nat) (h0 : x ≠ 0) (hn : n = lenB x - tz x) (hn64 : n ≤ 64) (h1 : L1 = L + 1) (v1 : V1 = V * 2 ^ 1 + 1 % 2 ^ 1) (h2 : L2 = L1 + 6) (v2 : V2 = V1 * 2 ^ 6 + (64 - lenB x) % 2 ^ 6)
    (h3 : L3 = L2 + 6) (v3 : V3 = V2 * 2 ^ 6 + (n - 1) % 2 ^ 6) (h4 : L4 = L3 + n) (v4 : V4 = V3 * 2 ^ n + (x / 2 ^ tz x) % 2 ^ n) : xadd (L, V) x = (L4, V4) := by
  have hw : wi ((n : Nat) : Int) = n := by unfold wi; omega
  unfold xadd xch
  rw [if_neg h0, ← hn]
  simp only [List.foldl_cons, List.foldl_nil, stp, hw]
  rw [show wi 1 = 1 by decide, show wi 6 = 6 by decide]
  subst h1 v1 h2 v2 h3 v3 h4 v4
  rfl
theorem xadd_le (s : Nat × Nat) (x : Nat) (hx : x < 18446744073709551616) : (xadd s x).1 ≤ s.1 + 77 := by
  obtain ⟨L, V⟩ := s
  by_cases h0 : x = 0
  · subst h0
    rw [xadd_zero]
    simp only
    omega
  · have h1 := lenB_le x 64 hx
    rw [xadd_some x (lenB x - tz x) L V _ _ _ _ _ _ _ _ h0 rfl (by omega) rfl rfl rfl rfl rfl rfl rfl rfl]
    simp only
    omega
theorem xt_le (l : List Nat) (hm : ∀ v ∈ l, v < 18446744073709551616) : ∀ k, (xt l k).1 ≤ 64 + 77 * k
  | 0 => by
    show 0 + wi 64 ≤ _
    rw [show wi 64 = 64 by decide]
    omega
  | k + 1 => by
    have h1 := xt_le l hm k
    have hg : ∀ j, l.getD j 0 < 2 ^ 64 := by
      intro j
      rcases Nat.lt_or_ge j l.length with h | h
      · rw [List.getD_eq_getElem?_getD, List.getElem?_eq_getElem h]
        exact hm _ (List.getElem_mem h)
      · rw [List.getD_eq_getElem?_getD, List.getElem?_eq_none h]
        decide
    have h2 := xadd_le (xt l k) (l.getD (k + 1) 0 ^^^ l.getD k 0) (Nat.xor_lt_two_pow (hg _) (hg _))
    show (xadd (xt l k) _).1 ≤ _
    omega
end BitM
namespace Go.Proofs.YtanljjpjhihgcaaDoor
open Go.RowKit BitM
set_option linter.unusedVariables false

set_option maxRecDepth 100000 in
theorem putChange_any (base g L V x : Nat) (w : World) (h : WSt w base g L V) (hx : x < 18446744073709551616) (ht : TabAt w) (hg : 1 < g) :
    Calls Tryd.prog 36 #[.pointer (some ⟨g, 0, none⟩), .int .u64 (x : Int)] w fun e w' => e = .returned (.tuple #[]) ∧ WSt w' base g (xadd (L, V) x).1 (xadd (L, V) x).2 ∧ w.grownBy w' (some g) := by
  by_cases h0 : x = 0
  · subst h0
    rw [xadd_zero]
    go_enter Tryd.func36, Tryd.ntmps36
    go_wp2_with (go_at_call 35; with_reducible refine (wput_to base g L V (L + 1) (V * 2 ^ 1 + 0 % 2 ^ 1) 0 1 0 _ h rfl (by omega) 1 (by decide) rfl rfl).mono ?_; rintro e w1 ⟨rfl, hw1, hg1⟩)
    refine bodyPost_ret (results_none rfl _ _ _) rfl ?_
    exact ⟨rfl, hw1, hg1⟩
  · have hl := lenB_le x 64 hx
    have hlp := lenB_pos x h0
    have htl := tz_len x h0
    obtain ⟨n, hn⟩ : ∃ n, n = lenB x - tz x := ⟨_, rfl⟩
    obtain ⟨y, hy⟩ : ∃ y, y = x / 2 ^ tz x := ⟨_, rfl⟩
    have hyi : (x : Int) / 2 ^ tz x = (y : Int) := by rw [hy]; simp
    have hy64 : y < 18446744073709551616 := by rw [hy]; exact Nat.lt_of_le_of_lt (Nat.div_le_self _ _) hx
    obtain ⟨ld, hld⟩ : ∃ ld, ld = 64 - lenB x := ⟨_, rfl⟩
    obtain ⟨t, htz⟩ : ∃ t, t = tz x := ⟨_, rfl⟩
    obtain ⟨m, hm⟩ : ∃ m, m = n - 1 := ⟨_, rfl⟩
    have hni : (64 : Int) - (ld : Int) - (t : Int) = (n : Int) := by omega
    have hmi : (n : Int) - 1 = (m : Int) := by omega
    have hld64 : ld < 64 := by omega
    have ht64 : t < 64 := by omega
    have hn64 : n ≤ 64 := by omega
    have hm64 : m < 64 := by omega
    have hwi : n = wi (n : Int) := by unfold wi; omega
    obtain ⟨L1, h1⟩ : ∃ z, z = L + 1 := ⟨_, rfl⟩
    obtain ⟨V1, v1⟩ : ∃ z, z = V * 2 ^ 1 + 1 % 2 ^ 1 := ⟨_, rfl⟩
    obtain ⟨L2, h2⟩ : ∃ z, z = L1 + 6 := ⟨_, rfl⟩
    obtain ⟨V2, v2⟩ : ∃ z, z = V1 * 2 ^ 6 + ld % 2 ^ 6 := ⟨_, rfl⟩
    obtain ⟨L3, h3⟩ : ∃ z, z = L2 + 6 := ⟨_, rfl⟩
    obtain ⟨V3, v3⟩ : ∃ z, z = V2 * 2 ^ 6 + m % 2 ^ 6 := ⟨_, rfl⟩
    obtain ⟨L4, h4⟩ : ∃ z, z = L3 + n := ⟨_, rfl⟩
    obtain ⟨V4, v4⟩ : ∃ z, z = V3 * 2 ^ n + y % 2 ^ n := ⟨_, rfl⟩
    have hs := xadd_some x n L V L1 V1 L2 V2 L3 V3 L4 V4 h0 hn hn64 h1 v1 h2 (by rw [← hld]; exact v2) h3 (by rw [← hm]; exact v3) h4 (by rw [← hy]; exact v4)
    rw [hs]
    rw [← htz] at hyi
    have H1 := Lib.hid h1
    have H2 := Lib.hid h2
    have H3 := Lib.hid h3
    have H4 := Lib.hid h4
    have W1 := Lib.hid v1
    have W2 := Lib.hid v2
    have W3 := Lib.hid v3
    have W4 := Lib.hid v4
    have HLD := Lib.hid hld
    have HTZ := Lib.hid htz
    have HWI := Lib.hid hwi
    have hne : ((x : Int) == 0) = false := by rw [beq_eq_false_iff_ne]; omega
    clear h1 h2 h3 h4 v1 v2 v3 v4 hld htz hs hwi hn hy hl hlp htl hm
    go_enter Tryd.func36, Tryd.ntmps36
    go_wp2_with (first
      | (go_at_call 59; with_reducible refine (lead_any x hx _).mono ?_; rw [← HLD.out]; rintro e w1 ⟨rfl, rfl⟩)
      | (go_at_call 60; with_reducible refine (trail_any x h0 hx _ ht).mono ?_; rw [← HTZ.out]; rintro e w1 ⟨rfl, rfl⟩)
      | (go_at_call 35; with_reducible refine (wput_to base g L V L1 V1 1 1 1 _ h rfl (by omega) 1 (by decide) H1.out W1.out).mono ?_; rintro e w1 ⟨rfl, hw1, hg1⟩)
      | (go_at_call 35; with_reducible refine (wput_to base g L1 V1 L2 V2 ld 6 ld _ hw1 rfl (by omega) 6 (by decide) H2.out W2.out).mono ?_; rintro e w2 ⟨rfl, hw2, hg2⟩)
      | (go_at_call 35; with_reducible refine (wput_to base g L2 V2 L3 V3 m 6 m _ hw2 rfl (by omega) 6 (by decide) H3.out W3.out).mono ?_; rintro e w3 ⟨rfl, hw3, hg3⟩)
      | (go_at_call 35; with_reducible refine (wput_to base g L3 V3 L4 V4 y n y _ hw3 rfl hy64 n HWI.out H4.out W4.out).mono ?_; rintro e w4 ⟨rfl, hw4, hg4⟩))
    refine bodyPost_end (results_none rfl _ _ _) rfl ?_
    exact ⟨rfl, hw4, ((hg1.trans hg2).trans hg3).trans hg4⟩

theorem getD_lt (ns : List Nat) (hm : ∀ v ∈ ns, v < 18446744073709551616) (j : Nat) : ns.getD j 0 < 18446744073709551616 := by
  rcases Nat.lt_or_ge j ns.length with h | h
  · rw [List.getD_eq_getElem?_getD, List.getElem?_eq_getElem h]
    exact hm _ (List.getElem_mem h)
  · rw [List.getD_eq_getElem?_getD, List.getElem?_eq_none h]
    decide

set_option maxHeartbeats 800000 in
set_option maxRecDepth 100000 in
theorem xorsPut_any (A : Option Addr) (n c : Nat) (ns : List Nat) (w : World) (hn : ns.length = n) (hx : NatsAt w A ns) (hl : n ≤ 200) (hc : n ≤ c) (hcm : c ≤ maxLen) (hm : ∀ v ∈ ns, v < 18446744073709551616) (ht : TabAt w) :
    Calls Tryd.prog 16 #[.slice A n c] w fun e w' => ∃ A' c', e = .returned (.tuple #[.slice A' (xb ns).length c', .int .i64 0]) ∧ BytesAt w' A' (xb ns) ∧ Below w.heap.size w w' ∧ (xb ns).length ≤ c' ∧ c' ≤ maxLen := by
  by_cases hne : ns = []
  · subst hne
    have hn0 : n = 0 := by simpa using hn.symm
    subst hn0
    go_enter Tryd.func16, Tryd.ntmps16
    go_wp2_with fail
    go_ret2
    exact ⟨none, 0, rfl, fun h => absurd rfl h, Below.refl _ _, Nat.le_refl _, by unfold maxLen; omega⟩
  · have hpos : 0 < n := by
      rcases Nat.eq_zero_or_pos n with h | h
      · rw [h] at hn
        exact absurd (List.eq_nil_of_length_eq_zero hn) hne
      · exact h
    obtain ⟨b, off, rfl⟩ := hx.addr hne
    have hc0 := hx.cell 0 (by omega)
    have hle := xt_le ns hm
    have hgD := getD_lt ns hm
    have hce : ∀ j, j < n → w.cell? ⟨b, off + j, none⟩ = some (.int .u64 (ns.getD j 0 : Nat)) := by
      intro j hj
      have := hx.cell j (by omega)
      rw [this, List.getD_eq_getElem?_getD, List.getElem?_eq_getElem (by omega)]
      rfl
    have hbl := World.block_lt_of_cell? _ _ hc0
    clear hc0
    have hc0 := hce 0 hpos
    rw [Nat.add_zero] at hc0
    obtain ⟨v0, hv0⟩ : ∃ v, v = ns.getD 0 0 := ⟨_, rfl⟩
    have hv064 : v0 < 18446744073709551616 := by rw [hv0]; exact hgD 0
    have hx0 : xt ns 0 = (0 + 64, 0 * 2 ^ 64 + v0 % 2 ^ 64) := by rw [hv0]; rfl
    rw [← hv0] at hc0
    have hxb : xb ns = bytesW (xt ns (n - 1)).1 (xt ns (n - 1)).2 := by unfold xb; rw [if_neg hne, hn]
    have hsub : (n : Int) - 1 = ((n - 1 : Nat) : Int) := by omega
    obtain ⟨n1, hn1⟩ : ∃ n1, n1 = n - 1 := ⟨_, rfl⟩
    rw [← hn1] at hsub hxb
    have HX0 := Lib.hid hx0
    have HXB := Lib.hid hxb
    have HLE := Lib.hid hle
    have HGD := Lib.hid hgD
    have HCE := Lib.hid hce
    have HN := Lib.hid hn
    have HN1 := Lib.hid hn1
    have HX := Lib.hid hx
    have HT := Lib.hid ht
    have hgl := ht.lt
    clear hx0 hxb hle hgD hce hn hx ht hv0 hm hn1
    have hb0 : Below w.heap.size w (w.alloc (.cells #[.pointer none, .int .u64 0, .int .i64 0] 66)) := (Below.refl _ _).alloc (Nat.le_refl _) _
    have hw0 := WSt.new w w.heap.size (Nat.le_refl _)
    have hcl : ((n : Int) == 0) = false := by rw [beq_eq_false_iff_ne]; omega
    unfold maxLen at hcm
    by_cases hcc : c = 1
    · subst hcc
      have hn1e : n - 1 = n1 := by have := HN1.out; omega
      go_enter Tryd.func16, Tryd.ntmps16
      go_wp2_with (first
        | (go_at_call 35; go_loud (with_reducible refine (wput_to w.heap.size w.heap.size 0 0 _ _ v0 64 v0 _ hw0 rfl hv064 64 (by decide) rfl rfl).mono ?_); rintro e w1 ⟨rfl, hw1, hg1⟩; have hb1 := below_some (by simp) (Nat.le_refl _) hb0 hg1))
      go_loopw [20] (fun i wr => ∃ (k L V : Nat), k ≤ n1 ∧ Hid ((L, V) = xt ns k) ∧ i = .int .i64 k ∧ WSt wr w.heap.size w.heap.size L V ∧ Below w.heap.size w wr) (fun i _ => n1 - (intOf i).toNat)
      case atStart => exact ⟨0, _, _, by omega, Lib.hid HX0.out.symm, rfl, hw1, hb1⟩
      case round =>
        obtain ⟨k, L, V, hk, HLV, rfl, hw, hb⟩ := hrel
        by_cases hlt : k < n1
        · exfalso
          have := HN1.out
          omega
        · obtain rfl : k = n1 := by omega
          have hlen : (xb ns).length = (L + 7) / 8 := by rw [HXB.out, ← HLV.out, length_bytesW]
          have hxb2 : xb ns = bytesW L V := by rw [HXB.out, ← HLV.out]
          have hL : L ≤ 64 + 77 * k := by have := HLE.out k; rw [← HLV.out] at this; exact this
          have HLEN := Lib.hid hlen
          have HXB2 := Lib.hid hxb2
          clear hlen hxb2
          go_wp2_with (go_at_call 37; with_reducible refine (wbytes_st w.heap.size w.heap.size L V (xb ns).length _ hw (by omega) HLEN.out).mono ?_; rw [← HXB2.out]; rintro e w4 ⟨A4, c4, rfl, hx4, hc4, hm4, _, hb4⟩)
          go_ret2
          exact ⟨A4, c4, rfl, hx4, hb.trans (hb4.mono hb.size), hc4, hm4⟩
    · have hn1e : n - 1 = n1 := by have := HN1.out; omega
      go_enter Tryd.func16, Tryd.ntmps16
      go_wp2_with (first
        | (go_at_call 35; go_loud (with_reducible refine (wput_to w.heap.size w.heap.size 0 0 _ _ v0 64 v0 _ hw0 rfl hv064 64 (by decide) rfl rfl).mono ?_); rintro e w1 ⟨rfl, hw1, hg1⟩; have hb1 := below_some (by simp) (Nat.le_refl _) hb0 hg1))
      go_loopw [20] (fun i wr => ∃ (k L V : Nat), k ≤ n1 ∧ Hid ((L, V) = xt ns k) ∧ i = .int .i64 k ∧ WSt wr w.heap.size w.heap.size L V ∧ Below w.heap.size w wr) (fun i _ => n1 - (intOf i).toNat)
      case atStart => exact ⟨0, _, _, by omega, Lib.hid HX0.out.symm, rfl, hw1, hb1⟩
      case round =>
        obtain ⟨k, L, V, hk, HLV, rfl, hw, hb⟩ := hrel
        by_cases hlt : k < n1
        · have hkn : k + 1 < n := by have := HN1.out; omega
          have c1 := (hb.cell (p := ⟨b, off + (k + 1), none⟩) (World.block_lt_of_cell? _ _ (HCE.out (k + 1) hkn))).trans (HCE.out (k + 1) hkn)
          have c2 := (hb.cell (p := ⟨b, off + k, none⟩) (World.block_lt_of_cell? _ _ (HCE.out k (by omega)))).trans (HCE.out k (by omega))
          rw [show off + (k + 1) = off + 1 + k by omega] at c1
          have g1 := HGD.out (k + 1)
          have g2 := HGD.out k
          have hst : xt ns (k + 1) = xadd (L, V) (ns.getD (k + 1) 0 ^^^ ns.getD k 0) := by rw [HLV.out]; rfl
          obtain ⟨a1, ha1⟩ : ∃ a, a = ns.getD (k + 1) 0 := ⟨_, rfl⟩
          obtain ⟨a2, ha2⟩ : ∃ a, a = ns.getD k 0 := ⟨_, rfl⟩
          rw [← ha1] at c1 g1 hst
          rw [← ha2] at c2 g2 hst
          have hxo : bits BinOp.xor IntKind.u64 (a1 : Int) (a2 : Int) = ((a1 ^^^ a2 : Nat) : Int) := u64_xor_nat _ _ g1 g2
          have hx64 : a1 ^^^ a2 < 18446744073709551616 := Nat.xor_lt_two_pow (n := 64) g1 g2
          obtain ⟨x, hxx⟩ : ∃ x, x = a1 ^^^ a2 := ⟨_, rfl⟩
          rw [← hxx] at hxo hx64 hst
          have HST := Lib.hid hst
          clear hst ha1 ha2 hxx
          go_wp2_with (go_at_call 36; with_reducible refine (putChange_any w.heap.size w.heap.size L V x _ hw hx64 (HT.out.below hb) hgl).mono ?_; rintro e w2 ⟨rfl, hw2, hg2⟩; have hb2 := below_some hb.size (Nat.le_refl _) hb hg2)
          go_roundw
          case rel => exact ⟨k + 1, _, _, by omega, Lib.hid HST.out.symm, by go_num, hw2, hb2⟩
          case measure => simp [intOf]; omega
        · obtain rfl : k = n1 := by omega
          have hlen : (xb ns).length = (L + 7) / 8 := by rw [HXB.out, ← HLV.out, length_bytesW]
          have hxb2 : xb ns = bytesW L V := by rw [HXB.out, ← HLV.out]
          have hL : L ≤ 64 + 77 * k := by have := HLE.out k; rw [← HLV.out] at this; exact this
          have HLEN := Lib.hid hlen
          have HXB2 := Lib.hid hxb2
          clear hlen hxb2
          go_wp2_with (go_at_call 37; with_reducible refine (wbytes_st w.heap.size w.heap.size L V (xb ns).length _ hw (by omega) HLEN.out).mono ?_; rw [← HXB2.out]; rintro e w4 ⟨A4, c4, rfl, hx4, hc4, hm4, _, hb4⟩)
          go_ret2
          exact ⟨A4, c4, rfl, hx4, hb.trans (hb4.mono hb.size), hc4, hm4⟩
end Go.Proofs.YtanljjpjhihgcaaDoor
