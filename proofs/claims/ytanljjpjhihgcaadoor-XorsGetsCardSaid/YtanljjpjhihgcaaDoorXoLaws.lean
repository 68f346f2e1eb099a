/- xors.Get of what Put laid; ricklaw08.puts is true in every world where the table stands. -/
import Derived.Test.YtanljjpjhihgcaaDoorXoGetW
namespace BitM
open Go.Proofs.YtanljjpjhihgcaaDoor
theorem xb_len {l : List Nat} (hne : l ≠ []) : (xb l).length = ((xt l (l.length - 1)).1 + 7) / 8 := by unfold xb; rw [if_neg hne, length_bytesW]
theorem xt_same (l : List Nat) (v : Nat) : ∀ k, (∀ j, j ≤ k → l.getD j 0 = v) → (xt l k).1 = 64 + k
  | 0, _ => by
    show 0 + wi 64 = _
    rw [show wi 64 = 64 by decide]
  | k + 1, h => by
    have ih := xt_same l v k (fun j hj => h j (by omega))
    show (xadd (xt l k) (l.getD (k + 1) 0 ^^^ l.getD k 0)).1 = _
    rw [h (k + 1) (by omega), h k (by omega), Nat.xor_self]
    show (xt l k).1 + wi 1 = _
    rw [show wi 1 = 1 by decide, ih]
    omega
theorem xb_same (v k : Nat) (hk : 1 ≤ k) : (xb (List.replicate k v)).length = 8 + (k - 1 + 7) / 8 := by
  have hne : List.replicate k v ≠ [] := by intro h; have := congrArg List.length h; simp at this; omega
  rw [xb_len hne, List.length_replicate, xt_same _ v]
  · omega
  · intro j hj
    rw [List.getD_eq_getElem?_getD, List.getElem?_replicate, if_pos (by omega)]
    rfl
theorem bits_front (F : Nat × Nat) (hV : F.2 < 2 ^ F.1) (rest : List UInt8) (len : Nat) (hlen : (bytesW F.1 F.2 ++ rest).length = len) : Bits (bytesW F.1 F.2 ++ rest) len F := by
  subst hlen
  have hl := length_bytesW F.1 F.2
  refine ⟨by rw [List.length_append, hl]; omega, fun p q hpq hq => ?_⟩
  rw [List.length_append, mid_front _ _ _ _ (by rw [hl]; omega), hl]
  exact mid_bytesW F.1 F.2 p q hV hq
theorem xb_le (n : Nat) (ns : List Nat) (hn : ns.length ≤ n) (hl : n ≤ 200) (hm : ∀ v ∈ ns, v < 18446744073709551616) : (xb ns).length ≤ 4000 := by
  by_cases hne : ns = []
  · subst hne
    simp [xb]
  · rw [xb_len hne]
    have := xt_le ns hm (ns.length - 1)
    omega
end BitM
namespace Go.Proofs.YtanljjpjhihgcaaDoor
open Go.RowKit BitM RunM
set_option linter.unusedVariables false

theorem xorsGet_x (A : Option Addr) (len c n : Nat) (z : Int) (X rest Z : List UInt8) (ns : List Nat) (sz : Nat) (w : World) (hz : z = (n : Int)) (hZ : xb ns = Z) (hXe : X = Z ++ rest) (hlen : X.length = len) (hl : len ≤ 1000000) (hX : BytesAt w A X) (hc : len ≤ c) (hcm : c ≤ maxLen)
    (hns : ns.length = n) (hn2 : n ≤ 200) (hm : ∀ v ∈ ns, v < 18446744073709551616) (hsz : Z.length = sz) (ht : TabAt w) :
    Calls Tryd.prog 18 #[.slice A len c, .int .i64 z] w fun e w' => ∃ A' c', e = .returned (.tuple #[.slice A' n c', .int .i64 (sz : Int), .int .i64 0]) ∧ NatsAt w' A' ns ∧ Below w.heap.size w w' := by
  subst hz
  by_cases hne : ns = []
  · subst hne
    have hn0 : n = 0 := by simpa using hns.symm
    have hs0 : sz = 0 := by rw [← hsz, ← hZ]; rfl
    subst hn0 hs0
    refine (xorsGet_zero A len c w).mono ?_
    rintro e w' ⟨rfl, rfl⟩
    exact ⟨none, 0, rfl, fun h => absurd rfl h, Below.refl _ _⟩
  · have hpos : 0 < n := by
      rcases Nat.eq_zero_or_pos n with h | h
      · rw [h] at hns
        exact absurd (List.eq_nil_of_length_eq_zero hns) hne
      · exact h
    have hxe : xb ns = bytesW (xt ns (n - 1)).1 (xt ns (n - 1)).2 := by unfold xb; rw [if_neg hne, hns]
    have hF : Bits X len (xt ns (n - 1)) := by
      subst hXe
      rw [← hZ, hxe] at hlen ⊢
      exact bits_front _ (xt_lt ns _) rest len hlen
    refine xorsGet_good A len c n X ns sz w hX hlen hl hc hcm hpos hn2 hns hm hF (by rw [← hsz, hZ]) ?_ ?_ ht
    · rw [← hlen, hXe, List.length_append, hsz]; omega
    · rw [hXe, hZ, ← hsz, List.take_left]

theorem xorsPut_z (A : Option Addr) (n c : Nat) (ns : List Nat) (Z : List UInt8) (sz : Nat) (w : World) (hZ : xb ns = Z) (hsz : Z.length = sz) (hn : ns.length = n) (hx : NatsAt w A ns) (hl : n ≤ 200) (hc : n ≤ c) (hcm : c ≤ maxLen) (hm : ∀ v ∈ ns, v < 18446744073709551616) (ht : TabAt w) :
    Calls Tryd.prog 16 #[.slice A n c] w fun e w' => ∃ A' c', e = .returned (.tuple #[.slice A' sz c', .int .i64 0]) ∧ BytesAt w' A' Z ∧ Below w.heap.size w w' ∧ sz ≤ c' ∧ c' ≤ maxLen := by
  subst hZ hsz
  exact xorsPut_any A n c ns w hn hx hl hc hcm hm ht
theorem refXorPut_z (A : Option Addr) (n c : Nat) (ns : List Nat) (Z : List UInt8) (sz : Nat) (w : World) (hZ : xb ns = Z) (hsz : Z.length = sz) (hn : ns.length = n) (hx : NatsAt w A ns) (hl : n ≤ 200) (hm : ∀ v ∈ ns, v < 18446744073709551616) :
    Calls Tryd.prog 17 #[.slice A n c] w fun e w' => ∃ A' c', e = .returned (.slice A' sz c') ∧ BytesAt w' A' Z ∧ Below w.heap.size w w' := by
  subst hZ hsz
  exact refXorPut_any A n c ns w hn hx hl hm
theorem xorsPut_large (A : Option Addr) (n c : Nat) (w : World) (hl : 200 < n) (hl2 : n ≤ 100000) :
    Calls Tryd.prog 16 #[.slice A n c] w fun e w' => e = .returned (.tuple #[.slice none 0 0, .int .i64 1]) ∧ w = w' := by
  go_enter Tryd.func16, Tryd.ntmps16
  go_wp2_with fail
  go_ret2
  exact ⟨rfl, rfl⟩

set_option maxRecDepth 100000 in
theorem xoputs_any (w : World) (ht : TabAt w) : Calls Tryd.prog 19 #[] w fun e w' => e = .returned (.bool true) ∧ Below w.heap.size w w' := by
  have hm : ∀ v ∈ [5, 5], v < 18446744073709551616 := by decide
  obtain ⟨Z, hZ⟩ : ∃ Z, xb [5, 5] = Z := ⟨_, rfl⟩
  have hZl : Z.length = 9 := by rw [← hZ]; exact xb_same 5 2 (by omega)
  have HM := Lib.hid hm
  have HZ := Lib.hid hZ
  have HZL := Lib.hid hZl
  have HT := Lib.hid ht
  clear hm hZ hZl ht
  have hb0 : Below w.heap.size w (w.alloc (.cells #[.int .u64 5, .int .u64 5] 22)) := (Below.refl _ _).alloc (Nat.le_refl _) _
  have hx0 := nats_two w 5 5 5 5 22 rfl rfl
  go_enter Tryd.func19, Tryd.ntmps19
  go_wp2_with (first
    | (go_at_call 16; with_reducible refine (xorsPut_z (some ⟨w.heap.size, 0, none⟩) 2 2 [5, 5] Z 9 _ HZ.out HZL.out rfl hx0 (by omega) (by omega) (by unfold maxLen; omega) HM.out (HT.out.below hb0)).mono ?_; rintro e w1 ⟨A1, c1, rfl, hx1, hb1, hc1, hm1⟩))
  have hb01 := hb0.trans (hb1.mono hb0.size)
  go_loud (with_reducible refine (xorsGet_x A1 9 c1 2 2 Z [] Z [5, 5] 9 _ rfl HZ.out (List.append_nil _).symm HZL.out (by omega) hx1 hc1 hm1 rfl (by omega) HM.out HZL.out (HT.out.below hb01)).mono ?_)
  rintro e w2 ⟨A2, c2, rfl, hx2, hb2⟩
  obtain ⟨b2, o2, rfl⟩ := hx2.addr (by simp)
  have l1 := hx2.cell 1 (by decide)
  have hbb : Below w.heap.size w w2 := hb01.trans (hb2.mono hb01.size)
  clear hx1
  go_wp2_with fail
  go_ret
  exact ⟨rfl, hbb⟩
end Go.Proofs.YtanljjpjhihgcaaDoor
