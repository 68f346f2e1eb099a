/- A Reader takes of whatever bytes; the reference's row of bits behind it. -/
import Derived.Test.YtanljjpjhihgcaaBitSt
import Derived.Test.YtanljjpjhihgcaaBitRef2
namespace Go.Proofs.Ytanljjpjhihgcaa
open Go.RowKit BitM
set_option linter.unusedVariables false

theorem bytes_past {w w' : World} {g : Nat} {A : Option Addr} {n c p : Nat} {bad : Bool} (h : RdAt w g A n c p bad) {A' : Option Addr} {ys : List UInt8} (hx : BytesAt w A' ys) (hg : w.grownBy w' (some g)) : BytesAt w' A' ys := fun h0 => by
  obtain ⟨b, off, rfl, hc⟩ := hx h0
  exact bytes_beside hx hg (h.apart hx h0) h0

set_option maxRecDepth 100000 in
theorem take_zero (g : Nat) (A : Option Addr) (len c p : Nat) (n : Int) (w : World) (h : RdAt w g A len c p false) (hl : len ≤ 1000000000) (hp : p ≤ 8 * len) (hn : wi n = 0) :
    Calls Try.prog 9 #[.pointer (some ⟨g, 0, none⟩), .int .i64 n] w fun e w' => e = .returned (.int .u64 0) ∧ RdAt w' g A len c p false ∧ w.grownBy w' (some g) := by
  obtain ⟨c0, c1, c2, f0, f1, f2, hlt⟩ := h.cells
  have hd : decide (((8 * len - p : Nat) : Int) < 0) = false := by rw [decide_eq_false_iff_not]; omega
  go_enter Try.func9, Try.ntmps9
  go_wp2_with (first
    | (go_at_call 15; refine (within_any _ _).mono ?_; rw [hn]; rintro e w1 ⟨rfl, rfl⟩)
    | (go_at_call 16; refine (left_any g _ len c p false _ h hl hp).mono ?_; rintro e w2 ⟨rfl, hbl⟩; have h2 := h.below hbl; obtain ⟨d0, d1, d2, g0, g1, g2, hlt2⟩ := h2.cells))
  have h3 := h2.set2 false
  have hg3 := grown_set (grown_below_any (World.grownBy.refl w _) hbl) (g := g) 2 (.bool false)
  clear c0 c1 c2 f0 f1 f2 d0 d1 d2 g0 g1 g2 h2 hlt2
  generalize w2.setCell ⟨g, 2, none⟩ (.bool false) = wq at *
  go_loopw [1, 5] (fun i v wr => i = .int .i64 0 ∧ v = .int .u64 0 ∧ RdAt wr g A len c p false ∧ wq.grownBy wr (some g)) (fun i _ _ => (intOf i).toNat)
  case atStart => exact ⟨rfl, rfl, h3, World.grownBy.refl wq _⟩
  case round =>
    obtain ⟨rfl, rfl, hr, hg⟩ := hrel
    go_wp2_with fail
    go_ret
    exact ⟨rfl, hr, hg3.trans hg⟩

theorem take_okA (g : Nat) (A : Option Addr) (len c p : Nat) (n : Int) (xs : List UInt8) (M : Nat) (w : World) (h : RdAt w g A len c p false) (hx : BytesAt w A xs) (hxl : xs.length = len) (hl : len ≤ 1000000000) (hb : p + wi n ≤ 8 * len) (hM : mid (valB xs) (8 * len) p (p + wi n) = M) :
    Calls Try.prog 9 #[.pointer (some ⟨g, 0, none⟩), .int .i64 n] w fun e w' => e = .returned (.int .u64 (M : Int)) ∧ RdAt w' g A len c (p + wi n) false ∧ w.grownBy w' (some g) := by
  subst hM
  by_cases h0 : xs = []
  · have hz : wi n = 0 := by
      rw [h0] at hxl
      simp at hxl
      omega
    rw [hz, Nat.add_zero, mid_none]
    exact take_zero g A len c p n w h hl (by omega) hz
  · obtain ⟨b, off, rfl, hc⟩ := hx h0
    exact take_ok g b off len c p n xs w h hx hxl hl (h.apart hx h0) hb

set_option maxHeartbeats 400000 in
set_option maxRecDepth 100000 in
theorem refTake_z (A : Option Addr) (L c V : Nat) (n : Int) (w : World) (hx : BytesAt w A (bl L V)) (hl : L ≤ 100000000) (hc : L ≤ c) (hcm : c ≤ maxLen) (h0 : A = none → L = 0 ∧ c = 0) (h : wi n ≤ L) :
    Calls Try.prog 13 #[.slice A L c, .int .i64 n] w fun e w' => ∃ A', e = .returned (.tuple #[.int .u64 (mid V L 0 (wi n) : Nat), .slice A' (L - wi n) (c - wi n), .bool true]) ∧ BytesAt w' A' (bl (L - wi n) V) ∧ Below w.heap.size w w' ∧ (A' = none → L - wi n = 0 ∧ c - wi n = 0) := by
  have hval := wi_val n
  have hwl := wi_le n
  obtain ⟨m, hm⟩ : ∃ m, m = wi n := ⟨_, rfl⟩
  rw [← hm] at hval h hwl ⊢
  unfold maxLen at hcm
  have hnlt : ¬ (L : Int) < (m : Int) := by omega
  clear hm
  go_enter Try.func13, Try.ntmps13
  go_wp2_with fail
  go_loop [7, 8] (fun v i => ∃ k : Nat, k ≤ m ∧ i = .int .i64 k ∧ v = .int .u64 (mid V L 0 k : Nat)) (fun _ i => m - (intOf i).toNat)
  case atStart => exact ⟨0, by omega, rfl, by rw [mid_none]; rfl⟩
  case round =>
    obtain ⟨k, hk, rfl, rfl⟩ := hrel
    by_cases hlt : k < m
    · have hkL : k < L := by omega
      obtain ⟨b, off, rfl, hcc⟩ := hx (by intro h0; have := congrArg List.length h0; simp [length_bl] at this; omega)
      have hck := hcc k (by rw [length_bl]; exact hkL)
      clear hcc
      rw [bl_get] at hck
      obtain ⟨t, ht⟩ : ∃ t, t = V / 2 ^ (L - 1 - k) % 2 := ⟨_, rfl⟩
      have ht2 : t < 2 := by omega
      have hmb := mid_bit V L k hkL
      rw [← ht] at hck hmb
      have htt : (UInt8.ofNat t).toNat = t := by rw [UInt8.toNat_ofNat']; omega
      rw [htt] at hck
      have hlt64 : mid V L 0 (k + 1) < 18446744073709551616 := by
        have h1 := mid_lt V L 0 (k + 1)
        have h2 : 2 ^ (k + 1 - 0) ≤ 2 ^ 64 := Nat.pow_le_pow_right (by omega) (by omega)
        omega
      obtain ⟨M, hM⟩ : ∃ M, M = mid V L 0 k := ⟨_, rfl⟩
      rw [← hM] at hmb ⊢
      have HMB := Lib.hid hmb
      have hlt2 : M * 2 + t < 18446744073709551616 := by omega
      clear hmb hM ht htt
      go_wp2_with fail
      go_round
      case rel =>
        refine ⟨k + 1, by omega, by go_num, ?_⟩
        rw [HMB.out]
        go_num
      case measure => simp [intOf]; omega
    · obtain rfl : k = m := by omega
      have hkc : (k : Int) ≤ (L : Int) := by omega
      have hcut := hx.cut k
      by_cases hck : c = k
      · go_wp2_with fail
        go_quiet (fail)
        go_wp2_with fail
        go_ret3
        refine ⟨A, by rw [show c - k = 0 by omega]; rfl, ?_, below_drewN (Below.refl _ _) _, fun _ => ⟨by omega, by omega⟩⟩
        have : L - k = 0 := by omega
        rw [this]
        exact BytesAt.nil _ _
      · obtain ⟨a, rfl⟩ : ∃ a, A = some a := by
          cases A with
          | none => have := h0 rfl; omega
          | some a => exact ⟨a, rfl⟩
        go_wp2_with fail
        go_quiet (fail)
        go_wp2_with fail
        go_ret3
        refine ⟨some (a.add k), rfl, ?_, below_drewN (Below.refl _ _) _, fun h => by cases h⟩
        have := (hx.below (below_drewN (Below.refl _ _) nq)).cut k (some (a.add k)) (fun _ => rfl)
        rw [bl_drop] at this
        exact this
end Go.Proofs.Ytanljjpjhihgcaa
