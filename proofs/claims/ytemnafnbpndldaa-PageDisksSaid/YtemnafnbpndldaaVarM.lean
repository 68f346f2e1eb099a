/- Numbers of seven bits a byte, as lists of bytes: plain mathematics. -/
import Derived.WalkKit
namespace VarM

/-- A number's bytes. -/
def vput (n : Nat) : List UInt8 := if n < 128 then [UInt8.ofNat n] else UInt8.ofNat (n % 128 + 128) :: vput (n / 128)
termination_by n
decreasing_by omega

theorem vput_low {n : Nat} (h : n < 128) : vput n = [UInt8.ofNat n] := by rw [vput, if_pos h]
theorem vput_high {n : Nat} (h : ¬ n < 128) : vput n = UInt8.ofNat (n % 128 + 128) :: vput (n / 128) := by rw [vput, if_neg h]

theorem vput_len_pos (n : Nat) : 1 ≤ (vput n).length := by
  by_cases h : n < 128
  · rw [vput_low h]; simp
  · rw [vput_high h]; simp

theorem vput_len_le (k : Nat) : ∀ n, n < 128 ^ (k + 1) → (vput n).length ≤ k + 1 := by
  induction k with
  | zero => intro n h; rw [vput_low (by omega)]; simp
  | succ k ih =>
    intro n h
    by_cases h1 : n < 128
    · rw [vput_low h1]; simp
    · rw [vput_high h1, List.length_cons]
      have := ih (n / 128) (by rw [Nat.pow_succ] at h; omega)
      omega
theorem vput_len10 {n : Nat} (h : n < 18446744073709551616) : (vput n).length ≤ 10 := vput_len_le 9 n (by omega)

/-- What is told of bytes, from place i on, with n so far: the number, its length, the error. -/
def vget : List UInt8 → Nat → Nat → Nat × Nat × Nat
  | [], _, _ => (0, 0, 4)
  | c :: cs, i, n =>
    if i = 9 ∧ 1 < c.toNat then (0, 0, 3)
    else if 0 < i ∧ c.toNat = 0 then (0, 0, 3)
    else if c.toNat < 128 then (n + c.toNat % 128 * 2 ^ (7 * i), i + 1, 0)
    else vget cs (i + 1) (n + c.toNat % 128 * 2 ^ (7 * i))

theorem ofNat_toNat {n : Nat} (h : n < 256) : (UInt8.ofNat n).toNat = n := by rw [UInt8.toNat_ofNat']; omega

theorem pow7 (i : Nat) : 2 ^ (7 * (i + 1)) = 2 ^ (7 * i) * 128 := by rw [show 7 * (i + 1) = 7 * i + 7 by omega, Nat.pow_add]

theorem vget_put (rest : List UInt8) : ∀ (m i a : Nat), i ≤ 9 → m * 2 ^ (7 * i) < 18446744073709551616 → (0 < i → m ≠ 0) → vget (vput m ++ rest) i a = (a + m * 2 ^ (7 * i), i + (vput m).length, 0) := by
  intro m
  induction m using Nat.strongRecOn with
  | _ m ih =>
    intro i a hi hm h0
    have h9 : i = 9 → m ≤ 1 := by intro h; subst h; omega
    by_cases h : m < 128
    · rw [vput_low h]
      simp only [List.cons_append, List.nil_append, vget, List.length_cons, List.length_nil]
      rw [ofNat_toNat (by omega), if_neg (by omega), if_neg (by omega), if_pos h, Nat.mod_eq_of_lt h]
    · rw [vput_high h]
      have hi9 : i ≠ 9 := by intro e; have := h9 e; omega
      simp only [List.cons_append, vget, List.length_cons]
      rw [ofNat_toNat (by omega), if_neg (by omega), if_neg (by omega), if_neg (by omega)]
      have e1 : (m % 128 + 128) % 128 = m % 128 := by omega
      have e2 : m % 128 * 2 ^ (7 * i) + m / 128 * 2 ^ (7 * (i + 1)) = m * 2 ^ (7 * i) := by
        rw [pow7, Nat.mul_comm (2 ^ (7 * i)) 128, ← Nat.mul_assoc, ← Nat.add_mul]
        congr 1
        omega
      rw [e1, ih (m / 128) (by omega) (i + 1) _ (by omega) (by omega) (by omega)]
      refine Prod.ext ?_ (Prod.ext ?_ rfl)
      · simp only; omega
      · simp only; omega

/-- A number's bytes without the last one are too few. -/
theorem vget_cut : ∀ (m i a : Nat), i ≤ 9 → m * 2 ^ (7 * i) < 18446744073709551616 → vget ((vput m).take ((vput m).length - 1)) i a = (0, 0, 4) := by
  intro m
  induction m using Nat.strongRecOn with
  | _ m ih =>
    intro i a hi hm
    by_cases h : m < 128
    · rw [vput_low h]
      rfl
    · have hi9 : i ≠ 9 := by intro e; subst e; omega
      have hp := vput_len_pos (m / 128)
      rw [vput_high h, List.length_cons, show (vput (m / 128)).length + 1 - 1 = ((vput (m / 128)).length - 1) + 1 by omega, List.take_succ_cons]
      simp only [vget]
      have e2 : m % 128 * 2 ^ (7 * i) + m / 128 * 2 ^ (7 * (i + 1)) = m * 2 ^ (7 * i) := by
        rw [pow7, Nat.mul_comm (2 ^ (7 * i)) 128, ← Nat.mul_assoc, ← Nat.add_mul]
        congr 1
        omega
      rw [ofNat_toNat (by omega), if_neg (by omega), if_neg (by omega), if_neg (by omega), ih (m / 128) (by omega) (i + 1) _ (by omega) (by omega)]

theorem vget_bound : ∀ (xs : List UInt8) (i a : Nat), i ≤ 9 → a < 2 ^ (7 * i) → (vget xs i a).1 < 18446744073709551616 ∧ (vget xs i a).2.1 ≤ i + xs.length ∧ (vget xs i a).2.2 ≤ 4 := by
  intro xs
  induction xs with
  | nil => intro i a _ _; simp [vget]
  | cons c cs ih =>
    intro i a hi ha
    have hc := c.toNat_lt
    simp only [vget]
    split
    · simp
    · rename_i h1
      split
      · simp
      · have hlt : a + c.toNat % 128 * 2 ^ (7 * i) < 2 ^ (7 * (i + 1)) := by
          rw [pow7]
          have : c.toNat % 128 * 2 ^ (7 * i) ≤ 127 * 2 ^ (7 * i) := Nat.mul_le_mul_right _ (by omega)
          omega
        split
        · refine ⟨?_, by simp, by simp⟩
          by_cases h9 : i = 9
          · subst h9
            have : c.toNat ≤ 1 := by omega
            have : c.toNat % 128 ≤ 1 := by omega
            simp only
            omega
          · have : 2 ^ (7 * (i + 1)) ≤ 2 ^ 63 := Nat.pow_le_pow_right (by omega) (by omega)
            simp only
            omega
        · have h9 : i ≠ 9 := by intro h; omega
          have := ih (i + 1) _ (by omega) hlt
          simp only [List.length_cons]
          exact ⟨this.1, by omega, this.2.2⟩

/-- A number with a sign as one without. -/
def zig (n : Int) : Nat := if 0 ≤ n then 2 * n.toNat else 2 * (-(n + 1)).toNat + 1
def zag (m : Nat) : Int := if m % 2 = 0 then ((m / 2 : Nat) : Int) else -((m / 2 : Nat) : Int) - 1
theorem zag_zig (n : Int) : zag (zig n) = n := by
  unfold zag zig
  split <;> split <;> omega
theorem zig_zag (m : Nat) : zig (zag m) = m := by
  unfold zag zig
  split <;> split <;> omega
theorem zig_lt {n : Int} (h1 : -9223372036854775808 ≤ n) (h2 : n ≤ 9223372036854775807) : zig n < 18446744073709551616 := by
  unfold zig
  split <;> omega
theorem zag_in {m : Nat} (h : m < 18446744073709551616) : -9223372036854775808 ≤ zag m ∧ zag m ≤ 9223372036854775807 := by
  unfold zag
  split <;> omega
end VarM
