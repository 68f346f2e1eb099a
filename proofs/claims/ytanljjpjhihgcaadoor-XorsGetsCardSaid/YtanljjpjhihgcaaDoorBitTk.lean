/- A Reader takes of whatever bytes; the reference's row of bits behind it. -/
import Derived.Test.YtanljjpjhihgcaaDoorBitSt
import Derived.Test.YtanljjpjhihgcaaDoorBitRef2
namespace Go.Proofs.YtanljjpjhihgcaaDoor
open Go.RowKit BitM
set_option linter.unusedVariables false

theorem bytes_past {w w' : World} {g : Nat} {A : Option Addr} {n c p : Nat} {bad : Bool} (h : RdAt w g A n c p bad) {A' : Option Addr} {ys : List UInt8} (hx : BytesAt w A' ys) (hg : w.grownBy w' (some g)) : BytesAt w' A' ys := fun h0 => by
  obtain ⟨b, off, rfl, hc⟩ := hx h0
  exact bytes_beside hx hg (h.apart hx h0) h0

set_option maxRecDepth 100000 in
theorem take_zero (g : Nat) (A : Option Addr) (len c p : Nat) (n : Int) (w : World) (h : RdAt w g A len c p false) (hl : len ≤ 1000000000) (hp : p ≤ 8 * len) (hn : wi n = 0) :
    Calls Tryd.prog 41 #[.pointer (some ⟨g, 0, none⟩), .int .i64 n] w fun e w' => e = .returned (.int .u64 0) ∧ RdAt w' g A len c p false ∧ w.grownBy w' (some g) := by
  obtain ⟨c0, c1, c2, f0, f1, f2, hlt⟩ := h.cells
  have hd : decide (((8 * len - p : Nat) : Int) < 0) = false := by rw [decide_eq_false_iff_not]; omega
  go_enter Tryd.func41, Tryd.ntmps41
  go_wp2_with (first
    | (go_at_call 57; refine (within_any _ _).mono ?_; rw [hn]; rintro e w1 ⟨rfl, rfl⟩)
    | (go_at_call 44; refine (left_any g _ len c p false _ h hl hp).mono ?_; rintro e w2 ⟨rfl, hbl⟩; have h2 := h.below hbl; obtain ⟨d0, d1, d2, g0, g1, g2, hlt2⟩ := h2.cells))
  have h3 := h2.set2 false
  have hg3 := grown_set (grown_below_any (World.grownBy.refl w _) hbl) (g := g) 2 (.bool false)
  clear c0 c1 c2 f0 f1 f2 d0 d1 d2 g0 g1 g2 h2 hlt2
  generalize w2.setCell ⟨g, 2, none⟩ (.bool false) = wq at *
  go_loopw [1, 5] (fun i v wr => i = .int .i64 0 ∧ v = .int .u64 0 ∧ RdAt wr g A len c p false ∧ wq.grownBy wr (some g)) (fun i _ _ => (intOf i).toNat)
  case atStart => exact ⟨rfl, rfl, h3, World.grownBy.refl wq _⟩
  case round =>
    obtain ⟨rfl, rfl, hr, hg⟩ := hrel
    go_wp2_with fail
    go_ret
    exact ⟨rfl, hr, hg3.trans hg⟩

theorem take_okA (g : Nat) (A : Option Addr) (len c p : Nat) (n : Int) (xs : List UInt8) (M : Nat) (w : World) (h : RdAt w g A len c p false) (hx : BytesAt w A xs) (hxl : xs.length = len) (hl : len ≤ 1000000000) (hb : p + wi n ≤ 8 * len) (hM : mid (valB xs) (8 * len) p (p + wi n) = M) :
    Calls Tryd.prog 41 #[.pointer (some ⟨g, 0, none⟩), .int .i64 n] w fun e w' => e = .returned (.int .u64 (M : Int)) ∧ RdAt w' g A len c (p + wi n) false ∧ w.grownBy w' (some g) := by
  subst hM
  by_cases h0 : xs = []
  · have hz : wi n = 0 := by
      rw [h0] at hxl
      simp at hxl
      omega
    rw [hz, Nat.add_zero, mid_none]
    exact take_zero g A len c p n w h hl (by omega) hz
  · obtain ⟨b, off, rfl, hc⟩ := hx h0
    exact take_ok g b off len c p n xs w h hx hxl hl (h.apart hx h0) hb

end Go.Proofs.YtanljjpjhihgcaaDoor
