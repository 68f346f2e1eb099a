/- LeadingZeros64 and TrailingZeros64: their contracts. -/
import Derived.Test.YtanljjpjhihgcaaDoorXoM
namespace BitM
def deB : List Nat := [0, 1, 56, 2, 57, 49, 28, 3, 61, 58, 42, 50, 38, 29, 17, 4, 62, 47, 59, 36, 45, 43, 51, 22, 53, 39, 33, 30, 24, 18, 12, 5, 63, 55, 48, 27, 60, 41, 37, 16, 46, 35, 44, 21, 52, 32, 23, 11, 54, 26, 40, 15, 34, 20, 31, 10, 25, 14, 19, 9, 13, 8, 7, 6]
theorem deB_at : ∀ t, t < 64 → 2 ^ t * 285870213051353865 % 18446744073709551616 / 288230376151711744 < 64 ∧ deB.getD (2 ^ t * 285870213051353865 % 18446744073709551616 / 288230376151711744) 0 = t := by decide +kernel
end BitM
namespace Go.Proofs.YtanljjpjhihgcaaDoor
open Go.RowKit BitM
set_option linter.unusedVariables false

/-- The table of math/bits stands where it should. -/
def TabAt (w : World) : Prop := ∀ i, i < 64 → w.cell? ⟨1, i, none⟩ = some (.int .u8 (deB.getD i 0 : Nat))
theorem TabAt.below {w w' : World} (h : TabAt w) (hb : Below w.heap.size w w') : TabAt w' := fun i hi => (World.cell?_of_block (a := ⟨1, i, none⟩) (hb.block _ (World.block_lt_of_cell? _ _ (h i hi)))).trans (h i hi)
theorem TabAt.lt {w : World} (h : TabAt w) : 1 < w.heap.size := World.block_lt_of_cell? _ _ (h 0 (by omega))
theorem TabAt.grown {w w' : World} (h : TabAt w) {g : Nat} (hg : w.grownBy w' (some g)) (hne : 1 < g) : TabAt w' := fun i hi => (World.cell?_of_block (a := ⟨1, i, none⟩) (hg.block _ h.lt (by simp; omega))).trans (h i hi)

theorem lead_any (x : Nat) (hx : x < 18446744073709551616) (w : World) : Calls Tryd.prog 59 #[.int .u64 (x : Int)] w fun e w' => e = .returned (.int .i64 ((64 - lenB x : Nat) : Int)) ∧ w = w' := by
  have hl := lenB_le x 64 hx
  have hz : (64 : Int) - (lenB x : Int) = ((64 - lenB x : Nat) : Int) := by omega
  go_enter Tryd.func59, Tryd.ntmps59
  go_wp2_with (go_at_call 69; refine (len64_any x hx _).mono ?_; rintro e w1 ⟨rfl, rfl⟩)
  go_ret
  exact ⟨rfl, rfl⟩

theorem trail_any (x : Nat) (h0 : x ≠ 0) (hx : x < 18446744073709551616) (w : World) (ht : TabAt w) : Calls Tryd.prog 60 #[.int .u64 (x : Int)] w fun e w' => e = .returned (.int .i64 (tz x : Int)) ∧ w = w' := by
  have hlow := low_bit x h0 hx
  have ht64 := tz_lt x 64 h0 hx
  obtain ⟨hq, hd⟩ := deB_at (tz x) ht64
  obtain ⟨q, hqe⟩ : ∃ q, q = 2 ^ tz x * 285870213051353865 % 18446744073709551616 / 288230376151711744 := ⟨_, rfl⟩
  rw [← hqe] at hq hd
  have hc := ht q hq
  rw [hd] at hc
  have hneg : IntKind.u64.wrap (-(x : Int)) = ((18446744073709551616 - x : Nat) : Int) := by rw [IntKind.wrap_u64]; omega
  have hand : bits BinOp.and IntKind.u64 (x : Int) ((18446744073709551616 - x : Nat) : Int) = ((2 ^ tz x : Nat) : Int) := by
    rw [u64_and_nat _ _ hx (by omega), hlow]
  have hne : ((x : Int) == 0) = false := by rw [beq_eq_false_iff_ne]; omega
  obtain ⟨M, hM⟩ : ∃ M, M = 2 ^ tz x := ⟨_, rfl⟩
  rw [← hM] at hand hqe
  have hmul : IntKind.u64.wrap ((M : Int) * 285870213051353865) / 288230376151711744 = (q : Int) := by
    have e : (M : Int) * 285870213051353865 = ((M * 285870213051353865 : Nat) : Int) := by rw [Int.natCast_mul]; rfl
    rw [e, IntKind.wrap_u64, hqe]
    generalize M * 285870213051353865 = N
    clear hand hneg hc
    omega
  have hM64 : M < 18446744073709551616 := by rw [hM]; exact Nat.pow_lt_pow_right (by omega) ht64
  clear hqe hd hlow hM
  go_enter Tryd.func60, Tryd.ntmps60
  go_wp2_with fail
  go_ret
  exact ⟨rfl, rfl⟩
end Go.Proofs.YtanljjpjhihgcaaDoor
