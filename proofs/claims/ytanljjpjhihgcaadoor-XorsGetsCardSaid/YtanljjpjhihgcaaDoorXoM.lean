/- Values as what is another bit in them: plain mathematics. -/
import Derived.Test.YtanljjpjhihgcaaDoorPkM
namespace BitM
/-- How many noughts a number ends in. -/
def tz (x : Nat) : Nat := if h : x % 2 = 1 ∨ x = 0 then 0 else tz (x / 2) + 1
termination_by x
decreasing_by omega
theorem tz_odd (x : Nat) (h : x ≠ 0) : ∃ a, x = 2 ^ tz x * (2 * a + 1) := by
  induction x using Nat.strongRecOn with
  | ind x ih =>
    unfold tz
    split
    · rename_i h1
      rcases h1 with h1 | h1
      · exact ⟨x / 2, by rw [Nat.pow_zero]; omega⟩
      · exact absurd h1 h
    · rename_i h1
      obtain ⟨a, ha⟩ := ih (x / 2) (by omega) (by omega)
      refine ⟨a, ?_⟩
      rw [Nat.pow_succ, Nat.mul_comm _ 2, Nat.mul_assoc, ← ha]
      omega
theorem tz_lt (x m : Nat) (h : x ≠ 0) (hx : x < 2 ^ m) : tz x < m := by
  obtain ⟨a, ha⟩ := tz_odd x h
  rcases Nat.lt_or_ge (tz x) m with h1 | h1
  · exact h1
  · have h2 : 2 ^ m ≤ 2 ^ tz x := Nat.pow_le_pow_right (by omega) h1
    have h3 : 2 ^ tz x * 1 ≤ 2 ^ tz x * (2 * a + 1) := Nat.mul_le_mul_left _ (by omega)
    omega
/-- The lowest bit that is one, by what Go reckons. -/
theorem low_bit (x : Nat) (h : x ≠ 0) (hx : x < 18446744073709551616) : x &&& (18446744073709551616 - x) = 2 ^ tz x := by
  obtain ⟨a, ha⟩ := tz_odd x h
  obtain ⟨t, ht⟩ : ∃ t, t = tz x := ⟨_, rfl⟩
  have ht64 := tz_lt x 64 h hx
  rw [← ht] at ha ht64 ⊢
  have e1 : x = 2 ^ t * (2 * a + 1) + 0 := by omega
  have hp : 0 < 2 ^ t := Nat.pow_pos (by omega)
  have e2 : x - 1 = 2 ^ t * (2 * a) + (2 ^ t - 1) := by rw [ha, Nat.mul_add, Nat.mul_one]; omega
  apply Nat.eq_of_testBit_eq
  intro j
  rw [Nat.testBit_and, show 18446744073709551616 - x = 2 ^ 64 - ((x - 1) + 1) by omega, Nat.testBit_two_pow_sub_succ (by omega)]
  rw [show x.testBit j = if j < t then Nat.testBit 0 j else Nat.testBit (2 * a + 1) (j - t) by
    conv => lhs; rw [e1]
    exact Nat.testBit_two_pow_mul_add _ hp j]
  rw [show (x - 1).testBit j = if j < t then Nat.testBit (2 ^ t - 1) j else Nat.testBit (2 * a) (j - t) by
    rw [e2]
    exact Nat.testBit_two_pow_mul_add _ (by omega) j]
  rw [Nat.testBit_two_pow]
  by_cases hj : j < t
  · simp [hj]
    omega
  · rw [if_neg hj, if_neg hj]
    by_cases hj2 : j = t
    · subst hj2
      simp [ht64]
    · obtain ⟨k, hk⟩ : ∃ k, j - t = k + 1 := ⟨j - t - 1, by omega⟩
      rw [hk]
      have : Nat.testBit (2 * a + 1) (k + 1) = Nat.testBit (2 * a) (k + 1) := by
        rw [Nat.testBit_succ, Nat.testBit_succ]
        congr 1
        omega
      rw [this]
      have hne : ¬ t = j := fun h => hj2 h.symm
      simp [hne]
      intro h1 h2
      exact h1
theorem shr_tz (x : Nat) (h : x ≠ 0) : x / 2 ^ tz x * 2 ^ tz x = x := by
  obtain ⟨a, ha⟩ := tz_odd x h
  have hp : 0 < 2 ^ tz x := Nat.pow_pos (by omega)
  obtain ⟨p, hpe⟩ : ∃ p, p = 2 ^ tz x := ⟨_, rfl⟩
  rw [← hpe] at ha hp ⊢
  rw [ha, Nat.mul_div_cancel_left _ hp, Nat.mul_comm]
theorem tz_len (x : Nat) (h : x ≠ 0) : tz x < lenB x := by
  have h1 := lenB_lt x
  exact tz_lt x _ h h1
theorem shr_lt (x : Nat) (h : x ≠ 0) : x / 2 ^ tz x < 2 ^ (lenB x - tz x) := by
  have h1 := lenB_lt x
  have h2 := tz_len x h
  rw [Nat.div_lt_iff_lt_mul (Nat.pow_pos (by omega)), ← Nat.pow_add, show lenB x - tz x + tz x = lenB x by omega]
  exact h1
theorem lenB_pos (x : Nat) (h : x ≠ 0) : 1 ≤ lenB x := by
  unfold lenB
  rw [if_neg h]
  omega
end BitM
