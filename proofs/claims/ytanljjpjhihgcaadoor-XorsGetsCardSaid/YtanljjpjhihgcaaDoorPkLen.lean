/- math/bits.Len64: its contract. -/
import Derived.Test.YtanljjpjhihgcaaDoorBitM
import Derived.Test.YtanljjpjhihgcaaDoorBitRd
namespace BitM
/-- How many bits a number has. -/
def lenB (x : Nat) : Nat := if x = 0 then 0 else Nat.log2 x + 1
theorem lenB_lt (x : Nat) : x < 2 ^ lenB x := by
  unfold lenB
  split
  · subst x; decide
  · exact (Nat.log2_lt (by assumption)).1 (Nat.lt_succ_self _)
theorem lenB_le (x m : Nat) (h : x < 2 ^ m) : lenB x ≤ m := by
  unfold lenB
  split
  · omega
  · exact (Nat.log2_lt (by assumption)).2 h
theorem lenB_ge (x : Nat) (h : x ≠ 0) : 2 ^ (lenB x - 1) ≤ x := by
  unfold lenB
  rw [if_neg h, Nat.add_sub_cancel]
  exact Nat.log2_self_le h
theorem lenB_eq (x m : Nat) (h1 : x < 2 ^ m) (h2 : m = 0 ∨ 2 ^ (m - 1) ≤ x) : lenB x = m := by
  have a := lenB_le x m h1
  rcases h2 with rfl | h2
  · omega
  · rcases Nat.lt_or_ge (lenB x) m with h | h
    · have h3 := lenB_lt x
      have h4 : 2 ^ lenB x ≤ 2 ^ (m - 1) := Nat.pow_le_pow_right (by omega) (by omega)
      omega
    · omega
theorem lenB_shift (x k : Nat) (h : 2 ^ k ≤ x) : lenB x = k + lenB (x / 2 ^ k) := by
  have hp : 0 < 2 ^ k := Nat.pow_pos (by omega)
  have h0 : x / 2 ^ k ≠ 0 := by
    have := Nat.div_pos h hp
    omega
  refine lenB_eq _ _ ?_ (.inr ?_)
  · rw [Nat.pow_add]
    have := lenB_lt (x / 2 ^ k)
    rw [Nat.mul_comm]
    exact (Nat.div_lt_iff_lt_mul hp).1 this
  · have h1 := lenB_ge (x / 2 ^ k) h0
    have h2 : 1 ≤ lenB (x / 2 ^ k) := by unfold lenB; rw [if_neg h0]; omega
    rw [show k + lenB (x / 2 ^ k) - 1 = (lenB (x / 2 ^ k) - 1) + k by omega, Nat.pow_add]
    exact (Nat.le_div_iff_mul_le hp).1 h1
end BitM
namespace Go.Proofs.YtanljjpjhihgcaaDoor
open Go.RowKit BitM
set_option linter.unusedVariables false

set_option maxRecDepth 100000 in
theorem len64_000 (x : Nat) (hx : x < 18446744073709551616) (h32 : x < 4294967296) (h16 : x < 65536) (h8 : x < 256) (hL : lenB x = 0 + lenB x) (w : World) : Calls Tryd.prog 69 #[.int .u64 (x : Int)] w fun e w' => e = .returned (.int .i64 (lenB x : Int)) ∧ w = w' := by
  have d32 : decide ((x : Int) ≥ 4294967296) = false := by rw [decide_eq_false_iff_not]; omega
  have d16 : decide ((x : Int) ≥ 65536) = false := by rw [decide_eq_false_iff_not]; omega
  have d8 : decide ((x : Int) ≥ 256) = false := by rw [decide_eq_false_iff_not]; omega
  have hc : x < 256 := by omega
  have HL := Lib.hid hL
  clear hL
  go_enter Tryd.func69, Tryd.ntmps69
  go_wp2_with fail
  go_ret
  refine ⟨congrArg (fun z : Int => Ending.returned (.int .i64 z)) ?_, rfl⟩
  rw [HL.out]
  clear HL
  try clear hx
  try clear d8
  try clear e8
  try clear d16
  try clear e16
  try clear d32
  try clear e32
  try clear h8
  try clear h16
  try clear h32
  revert hc
  revert x
  intro y h hc
  revert h
  revert hc
  revert y
  decide +kernel

set_option maxRecDepth 100000 in
theorem len64_001 (x y3 : Nat) (hx : x < 18446744073709551616) (h32 : x < 4294967296) (h16 : x < 65536) (h8 : 256 ≤ x) (q8 : y3 = x / 256) (hL : lenB x = 8 + lenB y3) (w : World) : Calls Tryd.prog 69 #[.int .u64 (x : Int)] w fun e w' => e = .returned (.int .i64 (lenB x : Int)) ∧ w = w' := by
  have d32 : decide ((x : Int) ≥ 4294967296) = false := by rw [decide_eq_false_iff_not]; omega
  have d16 : decide ((x : Int) ≥ 65536) = false := by rw [decide_eq_false_iff_not]; omega
  have d8 : decide ((x : Int) ≥ 256) = true := by rw [decide_eq_true_iff]; omega
  have e8 : (x : Int) / 256 = (y3 : Int) := by omega
  have hc : y3 < 256 := by omega
  have HL := Lib.hid hL
  clear hL q8
  go_enter Tryd.func69, Tryd.ntmps69
  go_wp2_with fail
  go_ret
  refine ⟨congrArg (fun z : Int => Ending.returned (.int .i64 z)) ?_, rfl⟩
  rw [HL.out]
  clear HL
  try clear hx
  try clear d8
  try clear e8
  try clear d16
  try clear e16
  try clear d32
  try clear e32
  try clear h8
  try clear h16
  try clear h32
  revert hc
  revert y3
  intro y h hc
  revert h
  revert hc
  revert y
  decide +kernel

set_option maxRecDepth 100000 in
theorem len64_010 (x y2 : Nat) (hx : x < 18446744073709551616) (h32 : x < 4294967296) (h16 : 65536 ≤ x) (q16 : y2 = x / 65536) (h8 : y2 < 256) (hL : lenB x = 16 + lenB y2) (w : World) : Calls Tryd.prog 69 #[.int .u64 (x : Int)] w fun e w' => e = .returned (.int .i64 (lenB x : Int)) ∧ w = w' := by
  have d32 : decide ((x : Int) ≥ 4294967296) = false := by rw [decide_eq_false_iff_not]; omega
  have d16 : decide ((x : Int) ≥ 65536) = true := by rw [decide_eq_true_iff]; omega
  have e16 : (x : Int) / 65536 = (y2 : Int) := by omega
  have d8 : decide ((y2 : Int) ≥ 256) = false := by rw [decide_eq_false_iff_not]; omega
  have hc : y2 < 256 := by omega
  have HL := Lib.hid hL
  clear hL q16
  go_enter Tryd.func69, Tryd.ntmps69
  go_wp2_with fail
  go_ret
  refine ⟨congrArg (fun z : Int => Ending.returned (.int .i64 z)) ?_, rfl⟩
  rw [HL.out]
  clear HL
  try clear hx
  try clear d8
  try clear e8
  try clear d16
  try clear e16
  try clear d32
  try clear e32
  try clear h8
  try clear h16
  try clear h32
  revert hc
  revert y2
  intro y h hc
  revert h
  revert hc
  revert y
  decide +kernel

set_option maxRecDepth 100000 in
theorem len64_011 (x y2 y3 : Nat) (hx : x < 18446744073709551616) (h32 : x < 4294967296) (h16 : 65536 ≤ x) (q16 : y2 = x / 65536) (h8 : 256 ≤ y2) (q8 : y3 = y2 / 256) (hL : lenB x = 24 + lenB y3) (w : World) : Calls Tryd.prog 69 #[.int .u64 (x : Int)] w fun e w' => e = .returned (.int .i64 (lenB x : Int)) ∧ w = w' := by
  have d32 : decide ((x : Int) ≥ 4294967296) = false := by rw [decide_eq_false_iff_not]; omega
  have d16 : decide ((x : Int) ≥ 65536) = true := by rw [decide_eq_true_iff]; omega
  have e16 : (x : Int) / 65536 = (y2 : Int) := by omega
  have d8 : decide ((y2 : Int) ≥ 256) = true := by rw [decide_eq_true_iff]; omega
  have e8 : (y2 : Int) / 256 = (y3 : Int) := by omega
  have hc : y3 < 256 := by omega
  have HL := Lib.hid hL
  clear hL q16 q8
  go_enter Tryd.func69, Tryd.ntmps69
  go_wp2_with fail
  go_ret
  refine ⟨congrArg (fun z : Int => Ending.returned (.int .i64 z)) ?_, rfl⟩
  rw [HL.out]
  clear HL
  try clear hx
  try clear d8
  try clear e8
  try clear d16
  try clear e16
  try clear d32
  try clear e32
  try clear h8
  try clear h16
  try clear h32
  revert hc
  revert y3
  intro y h hc
  revert h
  revert hc
  revert y
  decide +kernel

set_option maxRecDepth 100000 in
theorem len64_100 (x y1 : Nat) (hx : x < 18446744073709551616) (h32 : 4294967296 ≤ x) (q32 : y1 = x / 4294967296) (h16 : y1 < 65536) (h8 : y1 < 256) (hL : lenB x = 32 + lenB y1) (w : World) : Calls Tryd.prog 69 #[.int .u64 (x : Int)] w fun e w' => e = .returned (.int .i64 (lenB x : Int)) ∧ w = w' := by
  have d32 : decide ((x : Int) ≥ 4294967296) = true := by rw [decide_eq_true_iff]; omega
  have e32 : (x : Int) / 4294967296 = (y1 : Int) := by omega
  have d16 : decide ((y1 : Int) ≥ 65536) = false := by rw [decide_eq_false_iff_not]; omega
  have d8 : decide ((y1 : Int) ≥ 256) = false := by rw [decide_eq_false_iff_not]; omega
  have hc : y1 < 256 := by omega
  have HL := Lib.hid hL
  clear hL q32
  go_enter Tryd.func69, Tryd.ntmps69
  go_wp2_with fail
  go_ret
  refine ⟨congrArg (fun z : Int => Ending.returned (.int .i64 z)) ?_, rfl⟩
  rw [HL.out]
  clear HL
  try clear hx
  try clear d8
  try clear e8
  try clear d16
  try clear e16
  try clear d32
  try clear e32
  try clear h8
  try clear h16
  try clear h32
  revert hc
  revert y1
  intro y h hc
  revert h
  revert hc
  revert y
  decide +kernel

set_option maxRecDepth 100000 in
theorem len64_101 (x y1 y3 : Nat) (hx : x < 18446744073709551616) (h32 : 4294967296 ≤ x) (q32 : y1 = x / 4294967296) (h16 : y1 < 65536) (h8 : 256 ≤ y1) (q8 : y3 = y1 / 256) (hL : lenB x = 40 + lenB y3) (w : World) : Calls Tryd.prog 69 #[.int .u64 (x : Int)] w fun e w' => e = .returned (.int .i64 (lenB x : Int)) ∧ w = w' := by
  have d32 : decide ((x : Int) ≥ 4294967296) = true := by rw [decide_eq_true_iff]; omega
  have e32 : (x : Int) / 4294967296 = (y1 : Int) := by omega
  have d16 : decide ((y1 : Int) ≥ 65536) = false := by rw [decide_eq_false_iff_not]; omega
  have d8 : decide ((y1 : Int) ≥ 256) = true := by rw [decide_eq_true_iff]; omega
  have e8 : (y1 : Int) / 256 = (y3 : Int) := by omega
  have hc : y3 < 256 := by omega
  have HL := Lib.hid hL
  clear hL q32 q8
  go_enter Tryd.func69, Tryd.ntmps69
  go_wp2_with fail
  go_ret
  refine ⟨congrArg (fun z : Int => Ending.returned (.int .i64 z)) ?_, rfl⟩
  rw [HL.out]
  clear HL
  try clear hx
  try clear d8
  try clear e8
  try clear d16
  try clear e16
  try clear d32
  try clear e32
  try clear h8
  try clear h16
  try clear h32
  revert hc
  revert y3
  intro y h hc
  revert h
  revert hc
  revert y
  decide +kernel

set_option maxRecDepth 100000 in
theorem len64_110 (x y1 y2 : Nat) (hx : x < 18446744073709551616) (h32 : 4294967296 ≤ x) (q32 : y1 = x / 4294967296) (h16 : 65536 ≤ y1) (q16 : y2 = y1 / 65536) (h8 : y2 < 256) (hL : lenB x = 48 + lenB y2) (w : World) : Calls Tryd.prog 69 #[.int .u64 (x : Int)] w fun e w' => e = .returned (.int .i64 (lenB x : Int)) ∧ w = w' := by
  have d32 : decide ((x : Int) ≥ 4294967296) = true := by rw [decide_eq_true_iff]; omega
  have e32 : (x : Int) / 4294967296 = (y1 : Int) := by omega
  have d16 : decide ((y1 : Int) ≥ 65536) = true := by rw [decide_eq_true_iff]; omega
  have e16 : (y1 : Int) / 65536 = (y2 : Int) := by omega
  have d8 : decide ((y2 : Int) ≥ 256) = false := by rw [decide_eq_false_iff_not]; omega
  have hc : y2 < 256 := by omega
  have HL := Lib.hid hL
  clear hL q32 q16
  go_enter Tryd.func69, Tryd.ntmps69
  go_wp2_with fail
  go_ret
  refine ⟨congrArg (fun z : Int => Ending.returned (.int .i64 z)) ?_, rfl⟩
  rw [HL.out]
  clear HL
  try clear hx
  try clear d8
  try clear e8
  try clear d16
  try clear e16
  try clear d32
  try clear e32
  try clear h8
  try clear h16
  try clear h32
  revert hc
  revert y2
  intro y h hc
  revert h
  revert hc
  revert y
  decide +kernel

set_option maxRecDepth 100000 in
theorem len64_111 (x y1 y2 y3 : Nat) (hx : x < 18446744073709551616) (h32 : 4294967296 ≤ x) (q32 : y1 = x / 4294967296) (h16 : 65536 ≤ y1) (q16 : y2 = y1 / 65536) (h8 : 256 ≤ y2) (q8 : y3 = y2 / 256) (hL : lenB x = 56 + lenB y3) (w : World) : Calls Tryd.prog 69 #[.int .u64 (x : Int)] w fun e w' => e = .returned (.int .i64 (lenB x : Int)) ∧ w = w' := by
  have d32 : decide ((x : Int) ≥ 4294967296) = true := by rw [decide_eq_true_iff]; omega
  have e32 : (x : Int) / 4294967296 = (y1 : Int) := by omega
  have d16 : decide ((y1 : Int) ≥ 65536) = true := by rw [decide_eq_true_iff]; omega
  have e16 : (y1 : Int) / 65536 = (y2 : Int) := by omega
  have d8 : decide ((y2 : Int) ≥ 256) = true := by rw [decide_eq_true_iff]; omega
  have e8 : (y2 : Int) / 256 = (y3 : Int) := by omega
  have hc : y3 < 256 := by omega
  have HL := Lib.hid hL
  clear hL q32 q16 q8
  go_enter Tryd.func69, Tryd.ntmps69
  go_wp2_with fail
  go_ret
  refine ⟨congrArg (fun z : Int => Ending.returned (.int .i64 z)) ?_, rfl⟩
  rw [HL.out]
  clear HL
  try clear hx
  try clear d8
  try clear e8
  try clear d16
  try clear e16
  try clear d32
  try clear e32
  try clear h8
  try clear h16
  try clear h32
  revert hc
  revert y3
  intro y h hc
  revert h
  revert hc
  revert y
  decide +kernel

theorem len64_any (x : Nat) (hx : x < 18446744073709551616) (w : World) : Calls Tryd.prog 69 #[.int .u64 (x : Int)] w fun e w' => e = .returned (.int .i64 (lenB x : Int)) ∧ w = w' := by
  have s32 := fun y (h : 4294967296 ≤ y) => lenB_shift y 32 (by simpa using h)
  have s16 := fun y (h : 65536 ≤ y) => lenB_shift y 16 (by simpa using h)
  have s8 := fun y (h : 256 ≤ y) => lenB_shift y 8 (by simpa using h)
  simp only [show (2 : Nat) ^ 32 = 4294967296 from rfl] at s32
  simp only [show (2 : Nat) ^ 16 = 65536 from rfl] at s16
  simp only [show (2 : Nat) ^ 8 = 256 from rfl] at s8
  rcases Nat.lt_or_ge x 4294967296 with h32 | h32
  · rcases Nat.lt_or_ge x 65536 with h16 | h16
    · rcases Nat.lt_or_ge x 256 with h8 | h8
      · exact len64_000 x hx h32 h16 h8 (by omega) w
      · exact len64_001 x (x / 256) hx h32 h16 h8 rfl (by rw [s8 x h8]) w
    · rcases Nat.lt_or_ge (x / 65536) 256 with h8 | h8
      · exact len64_010 x (x / 65536) hx h32 h16 rfl h8 (by rw [s16 x h16]) w
      · exact len64_011 x (x / 65536) (x / 65536 / 256) hx h32 h16 rfl h8 rfl (by rw [s16 x h16, s8 _ h8]; omega) w
  · rcases Nat.lt_or_ge (x / 4294967296) 65536 with h16 | h16
    · rcases Nat.lt_or_ge (x / 4294967296) 256 with h8 | h8
      · exact len64_100 x (x / 4294967296) hx h32 rfl h16 h8 (by rw [s32 x h32]) w
      · exact len64_101 x (x / 4294967296) (x / 4294967296 / 256) hx h32 rfl h16 h8 rfl (by rw [s32 x h32, s8 _ h8]; omega) w
    · rcases Nat.lt_or_ge (x / 4294967296 / 65536) 256 with h8 | h8
      · exact len64_110 x (x / 4294967296) (x / 4294967296 / 65536) hx h32 rfl h16 rfl h8 (by rw [s32 x h32, s16 _ h16]; omega) w
      · exact len64_111 x (x / 4294967296) (x / 4294967296 / 65536) (x / 4294967296 / 65536 / 256) hx h32 rfl h16 rfl h8 rfl (by rw [s32 x h32, s16 _ h16, s8 _ h8]; omega) w
end Go.Proofs.YtanljjpjhihgcaaDoor
