/- The reference's Put of layer 8: its contract. -/
import Derived.Test.YtanljjpjhihgcaaDoorXoPut
import Derived.Test.YtanljjpjhihgcaaDoorPkRef
namespace BitM
open Go.Proofs.YtanljjpjhihgcaaDoor
def xu (l : List Nat) : Nat → Nat × Nat
  | 0 => (0, 0)
  | k + 1 => xt l k
theorem xu_le (l : List Nat) (hm : ∀ v ∈ l, v < 18446744073709551616) (k : Nat) : (xu l k).1 ≤ 77 * k := by
  cases k with
  | zero => show (0 : Nat) ≤ _; omega
  | succ k => have := xt_le l hm k; show (xt l k).1 ≤ _; omega
theorem stp_lt (s : Nat × Nat) (q : Nat × Int) (h : s.2 < 2 ^ s.1) : (stp s q).2 < 2 ^ (stp s q).1 := by
  unfold stp
  simp only
  have h1 : q.1 % 2 ^ wi q.2 < 2 ^ wi q.2 := Nat.mod_lt _ (Nat.pow_pos (by omega))
  rw [Nat.pow_add]
  have h2 : (s.2 + 1) * 2 ^ wi q.2 ≤ 2 ^ s.1 * 2 ^ wi q.2 := Nat.mul_le_mul_right _ h
  rw [Nat.add_mul, Nat.one_mul] at h2
  omega
theorem foldl_lt : ∀ (ps : List (Nat × Int)) (s : Nat × Nat), s.2 < 2 ^ s.1 → (ps.foldl stp s).2 < 2 ^ (ps.foldl stp s).1
  | [], _, h => h
  | q :: r, s, h => foldl_lt r _ (stp_lt s q h)
theorem xt_lt (l : List Nat) : ∀ k, (xt l k).2 < 2 ^ (xt l k).1
  | 0 => stp_lt _ _ (by decide)
  | k + 1 => foldl_lt _ _ (xt_lt l k)
theorem xu_lt (l : List Nat) (k : Nat) : (xu l k).2 < 2 ^ (xu l k).1 := by
  cases k with
  | zero => show 0 < 2 ^ 0; decide
  | succ k => exact xt_lt l k
theorem top_zero (x s : Nat) (h : lenB x ≤ s) : x / 2 ^ s = 0 := Nat.div_eq_of_lt (Nat.lt_of_lt_of_le (lenB_lt x) (Nat.pow_le_pow_right (by omega) h))
theorem top_one (x s : Nat) (h0 : x ≠ 0) (h : s + 1 = lenB x) : x / 2 ^ s = 1 := by
  have h1 := lenB_lt x
  have h2 := lenB_ge x h0
  rw [show lenB x - 1 = s by omega] at h2
  rw [← h, Nat.pow_succ] at h1
  have hp : 0 < 2 ^ s := Nat.pow_pos (by omega)
  exact Nat.div_eq_of_lt_le (by omega) (by omega)
theorem low_zero (x t : Nat) (h0 : x ≠ 0) (h : t < tz x) : x / 2 ^ t % 2 = 0 := by
  obtain ⟨a, ha⟩ := tz_odd x h0
  obtain ⟨d, hd⟩ : ∃ d, tz x = t + 1 + d := ⟨tz x - t - 1, by omega⟩
  obtain ⟨o, ho⟩ : ∃ o, o = 2 ^ d * (2 * a + 1) := ⟨_, rfl⟩
  have e : x = 2 ^ t * (2 * o) := by
    have : 2 ^ tz x * (2 * a + 1) = 2 ^ t * (2 * o) := by
      rw [hd, Nat.pow_add, Nat.pow_add, Nat.pow_one, ho]
      simp only [Nat.mul_assoc]
    omega
  have hp : 0 < 2 ^ t := Nat.pow_pos (by omega)
  rw [e, Nat.mul_div_cancel_left _ hp]
  omega
theorem low_one (x : Nat) (h0 : x ≠ 0) : x / 2 ^ tz x % 2 = 1 := by
  obtain ⟨a, ha⟩ := tz_odd x h0
  have hp : 0 < 2 ^ tz x := Nat.pow_pos (by omega)
  obtain ⟨p, hpe⟩ : ∃ p, p = 2 ^ tz x := ⟨_, rfl⟩
  rw [← hpe] at ha hp ⊢
  rw [ha, Nat.mul_div_cancel_left _ hp]
  omega
end BitM
namespace Go.Proofs.YtanljjpjhihgcaaDoor
open Go.RowKit BitM
set_option linter.unusedVariables false

theorem and_one' (x s r : Nat) (hx : x < 18446744073709551616) (z : Int) (hr : x / 2 ^ s % 2 = r) (hz : z = (r : Int)) : bits BinOp.and IntKind.u64 ((x : Int) / 2 ^ s) 1 = z := by
  have e : (x : Int) / 2 ^ s = ((x / 2 ^ s : Nat) : Int) := by simp
  rw [e, and_one _ (Nat.lt_of_le_of_lt (Nat.div_le_self _ _) hx), hr, hz]

theorem refBitPut' (A : Option Addr) (len c L V v L' V' : Nat) (n : Int) (z : Int) (k : Nat) (w : World) (base : Nat) (ho : OwnS w base (.slice A len c) 5 (bl L V)) (hbase : base ≤ w.heap.size) (hl : len ≤ 100000000) (hz : z = (v : Int)) (hv : v < 18446744073709551616) (hk : k = wi n) (hL : L' = L + k) (hV : V' = V * 2 ^ k + v % 2 ^ k) :
    Calls Tryd.prog 38 #[.slice A len c, .int .u64 z, .int .i64 n] w fun e w' => ∃ A' c', e = .returned (.slice A' L' c') ∧ OwnS w' base (.slice A' L' c') 5 (bl L' V') ∧ Below base w w' := by
  subst hk hL hV hz
  exact refBitPut A len c L V v n w base ho hbase hl hv

set_option maxHeartbeats 1000000 in
set_option maxRecDepth 100000 in
theorem refXorPut_any (A : Option Addr) (n c : Nat) (ns : List Nat) (w : World) (hn : ns.length = n) (hx : NatsAt w A ns) (hl : n ≤ 200) (hm : ∀ v ∈ ns, v < 18446744073709551616) :
    Calls Tryd.prog 17 #[.slice A n c] w fun e w' => ∃ A' c', e = .returned (.slice A' (xb ns).length c') ∧ BytesAt w' A' (xb ns) ∧ Below w.heap.size w w' := by
  have hle := xu_le ns hm
  have hlt := fun k => (show (xu ns k).2 < 2 ^ (xu ns k).1 from xu_lt ns k)
  have hgD := getD_lt ns hm
  have hce : ∀ j, j < n → ∃ b off, A = some ⟨b, off, none⟩ ∧ w.cell? ⟨b, off + j, none⟩ = some (.int .u64 (ns.getD j 0 : Nat)) := by
    intro j hj
    obtain ⟨b, off, rfl⟩ := hx.addr (by intro h; subst h; simp at hn; omega)
    refine ⟨b, off, rfl, ?_⟩
    have := hx.cell j (by omega)
    rw [this, List.getD_eq_getElem?_getD, List.getElem?_eq_getElem (by omega)]
    rfl
  have hxb : xb ns = bytesW (xu ns n).1 (xu ns n).2 := by
    unfold xb
    by_cases hne : ns = []
    · subst hne
      have hn0 : n = 0 := by simpa using hn.symm
      subst hn0
      rfl
    · rw [if_neg hne, hn]
      cases n with
      | zero => exact absurd (List.eq_nil_of_length_eq_zero hn) hne
      | succ n => rfl
  have HLE := Lib.hid hle
  have HLT := Lib.hid hlt
  have HGD := Lib.hid hgD
  have HCE := Lib.hid hce
  have HXB := Lib.hid hxb
  clear hle hlt hgD hce hxb hn hx hm
  go_enter Tryd.func17, Tryd.ntmps17
  go_wp2_with fail
  go_loopw [3, 4] (fun l i wr => ∃ (k L V c' : Nat) (A' : Option Addr), k ≤ n ∧ i = .int .i64 k ∧ Hid ((L, V) = xu ns k) ∧ l = .slice A' L c' ∧ OwnS wr w.heap.size (.slice A' L c') 5 (bl L V) ∧ Below w.heap.size w wr) (fun _ i _ => n - (intOf i).toNat)
  case atStart => exact ⟨0, 0, 0, 0, none, by omega, rfl, Lib.hid rfl, rfl, OwnS.nil _ _ _, Below.refl _ _⟩
  case round =>
    obtain ⟨k, L, V, c', A', hk, rfl, HLV, rfl, ho, hb⟩ := hrel
    have hL77 : L ≤ 77 * k := by have := HLE.out k; rw [← HLV.out] at this; exact this
    by_cases hlt : k < n
    · obtain ⟨b, off, rfl, hck0⟩ := HCE.out k hlt
      have hck := (hb.cell (p := ⟨b, off + k, none⟩) (World.block_lt_of_cell? _ _ hck0)).trans hck0
      have hblt := World.block_lt_of_cell? _ _ hck
      obtain ⟨a1, ha1⟩ : ∃ a, a = ns.getD k 0 := ⟨_, rfl⟩
      have g1 := HGD.out k
      rw [← ha1] at hck g1
      by_cases hk0 : k = 0
      · subst hk0
        have hLV : (L, V) = (0, 0) := HLV.out
        injection hLV with e1 e2
        subst e1 e2
        have hx0 : xu ns 1 = (0 + 64, 0 * 2 ^ 64 + a1 % 2 ^ 64) := by rw [ha1]; rfl
        have HX0 := Lib.hid hx0
        clear hx0 ha1 hck0
        rw [Nat.add_zero] at hck
        go_wp2_with (go_at_call 38; with_reducible refine (refBitPut' A' 0 c' 0 0 a1 _ _ 64 a1 64 _ w.heap.size ho hb.size (by omega) rfl g1 (by decide) rfl rfl).mono ?_; rintro e w4 ⟨A4, c4, rfl, ho4, hb4⟩)
        go_roundw
        case rel => exact ⟨1, _, _, c4, A4, by omega, by go_num, Lib.hid HX0.out.symm, rfl, ho4, hb.trans hb4⟩
        case measure => simp [intOf]; omega
      · obtain ⟨j, rfl⟩ : ∃ j, k = j + 1 := ⟨k - 1, by omega⟩
        obtain ⟨b2, off2, heq, hcj0⟩ := HCE.out j (by omega)
        injection heq with heq
        injection heq with e1 e2
        subst e1 e2
        have hcj := (hb.cell (p := ⟨b, off + j, none⟩) (World.block_lt_of_cell? _ _ hcj0)).trans hcj0
        obtain ⟨a2, ha2⟩ : ∃ a, a = ns.getD j 0 := ⟨_, rfl⟩
        have g2 := HGD.out j
        rw [← ha2] at hcj g2
        have hst : xu ns (j + 1 + 1) = xadd (L, V) (a1 ^^^ a2) := by rw [HLV.out, ha1, ha2]; rfl
        have hxo : bits BinOp.xor IntKind.u64 (a1 : Int) (a2 : Int) = ((a1 ^^^ a2 : Nat) : Int) := u64_xor_nat _ _ g1 g2
        have hx64 : a1 ^^^ a2 < 18446744073709551616 := Nat.xor_lt_two_pow (n := 64) g1 g2
        obtain ⟨x, hxx⟩ : ∃ x, x = a1 ^^^ a2 := ⟨_, rfl⟩
        rw [← hxx] at hxo hx64 hst
        have HST := Lib.hid hst
        have hjz : (((j + 1 : Nat) : Int) == 0) = false := by rw [beq_eq_false_iff_ne]; omega
        obtain ⟨k, hkj⟩ : ∃ k, k = j + 1 := ⟨_, rfl⟩
        rw [← hkj] at hck hjz hL77 hlt
        have hkj2 : (k : Int) - 1 = (j : Int) := by omega
        have HKJ := Lib.hid hkj
        rw [← hkj]
        have kc1 : ∀ y : SubW wr.heap.size wr, y.at_.cell? ⟨b, off + k, none⟩ = some (.int .u64 (a1 : Int)) := fun y => (World.cell?_of_block (a := ⟨b, off + k, none⟩) (y.ok_.block _ hblt)).trans hck
        have kc2 : ∀ y : SubW wr.heap.size wr, y.at_.cell? ⟨b, off + j, none⟩ = some (.int .u64 (a2 : Int)) := fun y => (World.cell?_of_block (a := ⟨b, off + j, none⟩) (y.ok_.block _ hblt)).trans hcj
        clear hst ha1 ha2 hxx hck0 hcj0 hkj hck hcj
        go_wp2_with fail
        refine region_over [] [0, 1, 2, 3, 4, 5, 6, 7, 8, 9, 10] (by kernel_rfl) (by kernel_rfl) ?_
        rintro wd hbd
        rw [wpBl_nil]
        simp only [List.map_cons, List.map_nil, opAt, List.getElem?_toArray, List.getElem?_cons_zero, List.getElem?_cons_succ, Option.getD_some]
        repeat (go_big_quiet_step (fail))
        refine wpQuiet_nil ?_
        have hbd2 := hb.trans (hbd.mono hb.size)
        have hod := ho.below hbd
        clear kc1 kc2 hxo
        by_cases h0 : x = 0
        · subst h0
          have hx0 := HST.out
          rw [xadd_zero] at hx0
          have HX0 := Lib.hid hx0
          clear hx0
          go_wp2_with (go_at_call 38; with_reducible refine (refBitPut' A' L c' L V 0 _ _ 1 0 1 _ w.heap.size hod hbd2.size (by omega) rfl (by omega) (by decide) rfl rfl).mono ?_; rintro e w4 ⟨A4, c4, rfl, ho4, hb4⟩)
          go_roundw
          case rel => exact ⟨k + 1, _, _, c4, A4, by omega, by go_num, Lib.hid (by rw [HKJ.out]; exact HX0.out.symm), rfl, ho4, hbd2.trans hb4⟩
          case measure => simp [intOf]; omega
        · have hne : ((x : Int) == 0) = false := by rw [beq_eq_false_iff_ne]; omega
          have hlb := lenB_le x 64 hx64
          have hlp := lenB_pos x h0
          have htl := tz_len x h0
          obtain ⟨m, hmn⟩ : ∃ m, m = lenB x - tz x := ⟨_, rfl⟩
          obtain ⟨yy, hy⟩ : ∃ y, y = x / 2 ^ tz x := ⟨_, rfl⟩
          have hyi : (x : Int) / 2 ^ tz x = (yy : Int) := by rw [hy]; simp
          have hy64 : yy < 18446744073709551616 := by rw [hy]; exact Nat.lt_of_le_of_lt (Nat.div_le_self _ _) hx64
          obtain ⟨ld, hld⟩ : ∃ ld, ld = 64 - lenB x := ⟨_, rfl⟩
          obtain ⟨t, htz⟩ : ∃ t, t = tz x := ⟨_, rfl⟩
          obtain ⟨m1, hm1⟩ : ∃ m1, m1 = m - 1 := ⟨_, rfl⟩
          have hni : (64 : Int) - (ld : Int) - (t : Int) = (m : Int) := by omega
          have hmi : (m : Int) - 1 = (m1 : Int) := by omega
          have hld64 : ld < 64 := by omega
          have ht64 : t < 64 := by omega
          have hm64 : m ≤ 64 := by omega
          have hm164 : m1 < 64 := by omega
          have hwi : m = wi (m : Int) := by unfold wi; omega
          obtain ⟨L1, h1⟩ : ∃ z, z = L + 1 := ⟨_, rfl⟩
          obtain ⟨V1, v1⟩ : ∃ z, z = V * 2 ^ 1 + 1 % 2 ^ 1 := ⟨_, rfl⟩
          obtain ⟨L2, h2⟩ : ∃ z, z = L1 + 6 := ⟨_, rfl⟩
          obtain ⟨V2, v2⟩ : ∃ z, z = V1 * 2 ^ 6 + ld % 2 ^ 6 := ⟨_, rfl⟩
          obtain ⟨L3, h3⟩ : ∃ z, z = L2 + 6 := ⟨_, rfl⟩
          obtain ⟨V3, v3⟩ : ∃ z, z = V2 * 2 ^ 6 + m1 % 2 ^ 6 := ⟨_, rfl⟩
          obtain ⟨L4, h4⟩ : ∃ z, z = L3 + m := ⟨_, rfl⟩
          obtain ⟨V4, v4⟩ : ∃ z, z = V3 * 2 ^ m + yy % 2 ^ m := ⟨_, rfl⟩
          have hs := xadd_some x m L V L1 V1 L2 V2 L3 V3 L4 V4 h0 hmn hm64 h1 v1 h2 (by rw [← hld]; exact v2) h3 (by rw [← hm1]; exact v3) h4 (by rw [← hy]; exact v4)
          have hst2 := HST.out
          rw [hs] at hst2
          have hLL : L3 ≤ 77 * k + 13 := by omega
          have hLL1 : L1 ≤ 77 * k + 1 := by omega
          have hLL2 : L2 ≤ 77 * k + 7 := by omega
          rw [← htz] at hyi
          have hup : ∀ u s, u < ld → s = 63 - u → bits BinOp.and IntKind.u64 ((x : Int) / 2 ^ s) 1 = 0 := fun u s hu hs => and_one' x s 0 hx64 0 (by rw [top_zero x s (by omega)]) rfl
          have hup1 : ∀ s, s = 63 - ld → bits BinOp.and IntKind.u64 ((x : Int) / 2 ^ s) 1 = 1 := fun s hs => and_one' x s 1 hx64 1 (by rw [top_one x s h0 (by omega)]) rfl
          have hlo : ∀ u, u < t → bits BinOp.and IntKind.u64 ((x : Int) / 2 ^ u) 1 = 0 := fun u hu => and_one' x u 0 hx64 0 (low_zero x u h0 (by omega)) rfl
          have hlo1 : bits BinOp.and IntKind.u64 ((x : Int) / 2 ^ t) 1 = 1 := and_one' x t 1 hx64 1 (by rw [htz]; exact low_one x h0) rfl
          have H1 := Lib.hid h1
          have H2 := Lib.hid h2
          have H3 := Lib.hid h3
          have H4 := Lib.hid h4
          have W1 := Lib.hid v1
          have W2 := Lib.hid v2
          have W3 := Lib.hid v3
          have W4 := Lib.hid v4
          have HWI := Lib.hid hwi
          have HUP := Lib.hid hup
          have HUP1 := Lib.hid hup1
          have HLO := Lib.hid hlo
          have HLO1 := Lib.hid hlo1
          have HST2 := Lib.hid hst2
          have HYI := Lib.hid hyi
          clear h1 h2 h3 h4 v1 v2 v3 v4 hld htz hs hwi hmn hy hlb hlp htl hm1 hup hup1 hlo hlo1 hst2 hyi
          go_wp2_with fail
          go_loop [6] (fun i => ∃ u : Nat, u ≤ ld ∧ i = .int .i64 u) (fun i => ld - (intOf i).toNat)
          case atStart => exact ⟨0, by omega, rfl⟩
          case round =>
            obtain ⟨u, hu, rfl⟩ := hrel
            obtain ⟨s, hs⟩ : ∃ s, s = 63 - u := ⟨_, rfl⟩
            have hsi : (63 : Int) - (u : Int) = (s : Int) := by omega
            have hs64 : s < 64 := by omega
            by_cases hul : u < ld
            · have hb1 := HUP.out u s hul hs
              clear hs
              go_wp2_with fail
              go_round
              case rel => exact ⟨u + 1, by omega, by go_num⟩
              case measure => simp [intOf]; omega
            · obtain rfl : u = ld := by omega
              have hb1 := HUP1.out s hs
              clear hs
              go_wp2_with fail
              go_loop [7] (fun i => ∃ v : Nat, v ≤ t ∧ i = .int .i64 v) (fun i => t - (intOf i).toNat)
              case atStart => exact ⟨0, by omega, rfl⟩
              case round =>
                obtain ⟨v, hv, rfl⟩ := hrel
                by_cases hvt : v < t
                · have hb2 := HLO.out v hvt
                  have hv64 : v < 64 := by omega
                  go_wp2_with fail
                  go_round
                  case rel => exact ⟨v + 1, by omega, by go_num⟩
                  case measure => simp [intOf]; omega
                · obtain rfl : v = t := by omega
                  have hb2 := HLO1.out
                  have hyi := HYI.out
                  rw [hyi] at hb2
                  go_wp2_with (first
                    | (go_at_call 38; with_reducible refine (refBitPut' A' L c' L V 1 L1 V1 1 1 1 _ w.heap.size hod hbd2.size (by omega) rfl (by omega) (by decide) H1.out W1.out).mono ?_; rintro e w4 ⟨A4, c4, rfl, ho4, hb4⟩)
                    | (go_at_call 38; with_reducible refine (refBitPut' A4 L1 c4 L1 V1 u L2 V2 6 _ 6 _ w.heap.size ho4 (by have := hbd2.size; have := hb4.size; omega) (by omega) rfl (by omega) (by decide) H2.out W2.out).mono ?_; rintro e w5 ⟨A5, c5, rfl, ho5, hb5⟩)
                    | (go_at_call 38; with_reducible refine (refBitPut' A5 L2 c5 L2 V2 m1 L3 V3 6 _ 6 _ w.heap.size ho5 (by have := hbd2.size; have := hb4.size; have := hb5.size; omega) (by omega) rfl (by omega) (by decide) H3.out W3.out).mono ?_; rintro e w6 ⟨A6, c6, rfl, ho6, hb6⟩)
                    | (go_at_call 38; with_reducible refine (refBitPut' A6 L3 c6 L3 V3 yy L4 V4 m _ m _ w.heap.size ho6 (by have := hbd2.size; have := hb4.size; have := hb5.size; have := hb6.size; omega) (by omega) rfl hy64 HWI.out H4.out W4.out).mono ?_; rintro e w7 ⟨A7, c7, rfl, ho7, hb7⟩))
                  go_roundw
                  case rel => exact ⟨k + 1, L4, V4, c7, A7, by omega, by go_num, Lib.hid (by rw [HKJ.out]; exact HST2.out.symm), rfl, ho7, (((hbd2.trans hb4).trans hb5).trans hb6).trans hb7⟩
                  case measure => simp [intOf]; omega
    · obtain rfl : k = n := by omega
      have hV : V < 2 ^ L := by have := HLT.out k; rw [← HLV.out] at this; exact this
      have hlen : (xb ns).length = (L + 7) / 8 := by rw [HXB.out, ← HLV.out, length_bytesW]
      have hxb2 : xb ns = bytesW L V := by rw [HXB.out, ← HLV.out]
      have HLEN := Lib.hid hlen
      have HXB2 := Lib.hid hxb2
      have hby := ho.bytes
      clear hlen hxb2
      go_wp2_with (go_at_call 39; with_reducible refine (refBytes_any A' L c' V _ hby (by omega) hV).mono ?_; rw [← HXB2.out, ← HLEN.out]; rintro e w7 ⟨A7, c7, rfl, ho7, hb7⟩)
      go_ret
      exact ⟨A7, c7, rfl, ho7.bytes, hb.trans (hb7.mono hb.size)⟩
end Go.Proofs.YtanljjpjhihgcaaDoor
