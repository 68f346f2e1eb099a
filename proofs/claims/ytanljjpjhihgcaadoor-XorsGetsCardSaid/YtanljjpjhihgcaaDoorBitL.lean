/- A row of bits as a list of 0 and 1: plain mathematics. -/
import Derived.Test.YtanljjpjhihgcaaDoorBitM
namespace BitM

def bl (L V : Nat) : List UInt8 := (List.range L).map fun i => UInt8.ofNat (V / 2 ^ (L - 1 - i) % 2)
theorem length_bl (L V : Nat) : (bl L V).length = L := by simp [bl]
theorem bl_get (L V i : Nat) (h : i < (bl L V).length) : (bl L V)[i] = UInt8.ofNat (V / 2 ^ (L - 1 - i) % 2) := by simp [bl]
theorem bl_zero (V : Nat) : bl 0 V = [] := rfl
theorem bl_snoc (L V b : Nat) (hb : b < 2) : bl (L + 1) (V * 2 + b) = bl L V ++ [UInt8.ofNat b] := by
  apply List.ext_getElem
  · simp [length_bl]
  · intro i h1 h2
    rw [length_bl] at h1
    rw [bl_get]
    by_cases h : i < L
    · rw [List.getElem_append_left (by rw [length_bl]; exact h), bl_get]
      congr 2
      have e : L + 1 - 1 - i = 1 + (L - 1 - i) := by omega
      rw [e, Nat.pow_add, Nat.pow_one, ← Nat.div_div_eq_div_mul]
      congr 1
      omega
    · have : i = L := by omega
      subst this
      rw [List.getElem_append_right (by rw [length_bl]; omega)]
      simp only [length_bl, Nat.sub_self, List.getElem_cons_zero]
      congr 1
      rw [show i + 1 - 1 - i = 0 by omega, Nat.pow_zero, Nat.div_one]
      omega
theorem bl_drop (L V n : Nat) : (bl L V).drop n = bl (L - n) V := by
  apply List.ext_getElem
  · simp [length_bl]
  · intro i h1 h2
    rw [List.getElem_drop, bl_get, bl_get]
    congr 4
    omega

/-- A bit of a number. -/
theorem bit_step (v n j : Nat) (hj : j < n) : v % 2 ^ n / 2 ^ (n - (j + 1)) = v % 2 ^ n / 2 ^ (n - j) * 2 + v / 2 ^ (n - (j + 1)) % 2 := by
  have e : n - j = (n - (j + 1)) + 1 := by omega
  rw [e, Nat.pow_succ, ← Nat.div_div_eq_div_mul]
  have h := part_mod v n (n - (j + 1)) 1 (by omega)
  rw [Nat.pow_one] at h
  rw [← h]
  omega
theorem bit_start (v n : Nat) : v % 2 ^ n / 2 ^ (n - 0) = 0 := by
  rw [Nat.sub_zero]
  exact Nat.div_eq_of_lt (Nat.mod_lt _ (Nat.pow_pos (by omega)))

/-- The first j of n bits behind V. -/
def upto (V v n j : Nat) : Nat := V * 2 ^ j + v % 2 ^ n / 2 ^ (n - j)
theorem upto_zero (V v n : Nat) : upto V v n 0 = V := by unfold upto; rw [bit_start]; simp
theorem upto_succ (V v n j : Nat) (hj : j < n) : upto V v n (j + 1) = upto V v n j * 2 + v / 2 ^ (n - (j + 1)) % 2 := by
  unfold upto
  rw [bit_step v n j hj, Nat.pow_succ, ← Nat.mul_assoc, Nat.add_mul, Nat.add_assoc]
theorem upto_all (V v n : Nat) : upto V v n n = V * 2 ^ n + v % 2 ^ n := by unfold upto; rw [Nat.sub_self, Nat.pow_zero, Nat.div_one]

/-- Bits are laid one by one: all but one byte stay. -/
def laid (L V i : Nat) : List UInt8 := beN (V / 2 ^ (L - i) * 2 ^ (8 * ((L + 7) / 8) - i)) ((L + 7) / 8)
theorem length_laid (L V i : Nat) : (laid L V i).length = (L + 7) / 8 := length_beN _ _
theorem laid_zero (L V : Nat) (hV : V < 2 ^ L) : laid L V 0 = List.replicate ((L + 7) / 8) 0 := by
  unfold laid
  rw [Nat.sub_zero, Nat.div_eq_of_lt hV, Nat.zero_mul]
  apply List.ext_getElem
  · simp [length_beN]
  · intro i h1 h2
    rw [beN_get]
    simp
theorem laid_all (L V : Nat) : laid L V L = bytesW L V := by
  unfold laid bytesW
  rw [Nat.sub_self, Nat.pow_zero, Nat.div_one]

theorem laid_step (L V i : Nat) (hi : i < L) :
    ∃ b : Nat, b = V / 2 ^ (L - 1 - i) % 2 ∧ ((laid L V i).getD (i / 8) 0).toNat % 2 ^ (7 - i % 8 + 1) = 0 ∧ ((laid L V i).getD (i / 8) 0).toNat + b * 2 ^ (7 - i % 8) < 256 ∧
      laid L V (i + 1) = (laid L V i).set (i / 8) (UInt8.ofNat (((laid L V i).getD (i / 8) 0).toNat + b * 2 ^ (7 - i % 8))) := by
  obtain ⟨b, hb⟩ : ∃ b, b = V / 2 ^ (L - 1 - i) % 2 := ⟨_, rfl⟩
  have hb2 : b < 2 := by rw [hb]; omega
  obtain ⟨nb, hnb⟩ : ∃ nb, nb = (L + 7) / 8 := ⟨_, rfl⟩
  obtain ⟨s, hs⟩ : ∃ s, s = 7 - i % 8 := ⟨_, rfl⟩
  obtain ⟨A, hA⟩ : ∃ A, A = V / 2 ^ (L - i) := ⟨_, rfl⟩
  have hA2 : V / 2 ^ (L - (i + 1)) = A * 2 + b := by
    have e : L - i = (L - (i + 1)) + 1 := by omega
    have e2 : L - 1 - i = L - (i + 1) := by omega
    rw [hA, hb, e, e2, Nat.pow_succ, ← Nat.div_div_eq_div_mul]
    omega
  have hq : i / 8 < nb := by omega
  refine ⟨b, hb, ?_⟩
  unfold laid
  rw [← hnb, ← hs, ← hA, hA2, beN_getD _ _ _ hq]
  -- what stands in a byte, before and behind
  have hE : 8 * nb - i = 8 * (nb - 1 - i / 8) + (s + 1) := by omega
  have hE2 : 8 * nb - (i + 1) = 8 * (nb - 1 - i / 8) + s := by omega
  have p256 : ∀ c : Nat, (256 : Nat) ^ c = 2 ^ (8 * c) := fun c => by rw [show (256 : Nat) = 2 ^ 8 from rfl, ← Nat.pow_mul]
  have h0 : (A * 2 ^ (8 * nb - i)) / 256 ^ (nb - 1 - i / 8) = A * 2 ^ (s + 1) := by
    rw [hE, p256, Nat.pow_add, Nat.mul_left_comm, Nat.mul_div_cancel_left _ (Nat.pow_pos (by omega))]
  have h1 : ((A * 2 + b) * 2 ^ (8 * nb - (i + 1))) / 256 ^ (nb - 1 - i / 8) = A * 2 ^ (s + 1) + b * 2 ^ s := by
    rw [hE2, p256, Nat.pow_add, Nat.mul_left_comm, Nat.mul_div_cancel_left _ (Nat.pow_pos (by omega)), Nat.add_mul, Nat.pow_succ, Nat.mul_assoc, Nat.mul_comm 2]
  have hs7 : s ≤ 7 := by omega
  have h256 : (256 : Nat) = 2 ^ (s + 1) * 2 ^ (7 - s) := by rw [← Nat.pow_add, show s + 1 + (7 - s) = 8 by omega]
  obtain ⟨m, hm⟩ : ∃ m, A * 2 ^ (s + 1) % 256 = m * 2 ^ (s + 1) ∧ m < 2 ^ (7 - s) := by
    refine ⟨A % 2 ^ (7 - s), ?_, Nat.mod_lt _ (Nat.pow_pos (by omega))⟩
    rw [h256, Nat.mul_comm A, Nat.mul_mod_mul_left, Nat.mul_comm]
  have hbyte : (UInt8.ofNat ((A * 2 ^ (8 * nb - i)) / 256 ^ (nb - 1 - i / 8))).toNat = m * 2 ^ (s + 1) := by rw [UInt8.toNat_ofNat', h0, ← hm.1]
  have hlt : m * 2 ^ (s + 1) + b * 2 ^ s < 256 := by
    have h3 : (m + 1) * 2 ^ (s + 1) ≤ 2 ^ (7 - s) * 2 ^ (s + 1) := Nat.mul_le_mul_right _ hm.2
    rw [Nat.mul_comm (2 ^ (7 - s)), ← h256, Nat.add_mul, Nat.one_mul] at h3
    have h4 : b * 2 ^ s ≤ 1 * 2 ^ s := Nat.mul_le_mul_right _ (by omega)
    have h5 : 2 ^ (s + 1) = 2 ^ s * 2 := Nat.pow_succ 2 s
    have h6 : 0 < 2 ^ s := Nat.pow_pos (by omega)
    omega
  rw [hbyte]
  refine ⟨by rw [Nat.mul_mod_left], hlt, ?_⟩
  apply List.ext_getElem
  · simp [length_beN]
  · intro q g1 g2
    rw [length_beN] at g1
    rw [beN_get, List.getElem_set]
    by_cases hqi : i / 8 = q
    · rw [if_pos hqi, ← hqi, h1]
      apply UInt8.toNat_inj.1
      rw [UInt8.toNat_ofNat', UInt8.toNat_ofNat']
      have hm1 := hm.1
      show (A * 2 ^ (s + 1) + b * 2 ^ s) % 256 = (m * 2 ^ (s + 1) + b * 2 ^ s) % 256
      generalize A * 2 ^ (s + 1) = a at *
      generalize m * 2 ^ (s + 1) = x at *
      generalize b * 2 ^ s = c at *
      omega
    · rw [if_neg hqi, beN_get]
      apply UInt8.toNat_inj.1
      rw [UInt8.toNat_ofNat', UInt8.toNat_ofNat', p256]
      by_cases hlt2 : q < i / 8
      · -- further up: nothing reaches there
        have hc : 8 * nb - i ≤ 8 * (nb - 1 - q) := by omega
        have k1 : ∀ x e c r : Nat, e ≤ c → r < 2 ^ e → (x * 2 ^ e + r) / 2 ^ c = x / 2 ^ (c - e) := fun x e c r hec hr => by
          have : (2 : Nat) ^ c = 2 ^ e * 2 ^ (c - e) := by rw [← Nat.pow_add]; congr 1; omega
          rw [this, ← Nat.div_div_eq_div_mul, Nat.mul_comm x, Nat.mul_add_div (Nat.pow_pos (by omega)), Nat.div_eq_of_lt hr, Nat.add_zero]
        have e1 : (A * 2 + b) * 2 ^ (8 * nb - (i + 1)) = A * 2 ^ (8 * nb - i) + b * 2 ^ (8 * nb - (i + 1)) := by
          have : 8 * nb - i = (8 * nb - (i + 1)) + 1 := by omega
          rw [this, Nat.pow_succ, Nat.add_mul, Nat.mul_assoc, Nat.mul_comm 2]
        rw [e1, k1 A _ _ _ hc (by
          have : 8 * nb - i = (8 * nb - (i + 1)) + 1 := by omega
          rw [this, Nat.pow_succ]
          have h4 : b * 2 ^ (8 * nb - (i + 1)) ≤ 1 * 2 ^ (8 * nb - (i + 1)) := Nat.mul_le_mul_right _ (by omega)
          have h6 : 0 < 2 ^ (8 * nb - (i + 1)) := Nat.pow_pos (by omega)
          omega)]
        have := k1 A (8 * nb - i) (8 * (nb - 1 - q)) 0 hc (Nat.pow_pos (by omega))
        rw [Nat.add_zero] at this
        rw [this]
      · -- further down: noughts
        have hc : 8 * (nb - 1 - q) + 8 ≤ 8 * nb - (i + 1) := by omega
        have k2 : ∀ x e c : Nat, c + 8 ≤ e → x * 2 ^ e / 2 ^ c % 2 ^ 8 = 0 := fun x e c hce => by
          have : (2 : Nat) ^ e = 2 ^ c * (2 ^ (e - c - 8) * 2 ^ 8) := by rw [← Nat.pow_add, ← Nat.pow_add]; congr 1; omega
          rw [this, Nat.mul_left_comm, Nat.mul_div_cancel_left _ (Nat.pow_pos (by omega)), ← Nat.mul_assoc, Nat.mul_mod_left]
        rw [k2 _ _ _ hc, k2 _ _ _ (by omega)]
end BitM
