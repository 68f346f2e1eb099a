/- Bits side by side as numbers: plain mathematics. A row of L bits is a number V below 2^L. -/
import Derived.WalkKit
namespace BitM

/-! ### Bytes of a number, the highest first -/

def beN (n k : Nat) : List UInt8 := (List.range k).map fun i => UInt8.ofNat (n / 256 ^ (k - 1 - i))
theorem length_beN (n k : Nat) : (beN n k).length = k := by simp [beN]
theorem beN_get (n k i : Nat) (h : i < (beN n k).length) : (beN n k)[i] = UInt8.ofNat (n / 256 ^ (k - 1 - i)) := by simp [beN]
theorem beN_getD (n k i : Nat) (h : i < k) : (beN n k).getD i 0 = UInt8.ofNat (n / 256 ^ (k - 1 - i)) := by
  rw [List.getD_eq_getElem?_getD, List.getElem?_eq_getElem (by rw [length_beN]; exact h), Option.getD_some, beN_get]

/-- Bytes side by side: those of the higher part, then those of the lower one. -/
theorem beN_cat (a x k j : Nat) (hx : x < 256 ^ j) : beN (a * 256 ^ j + x) (k + j) = beN a k ++ beN x j := by
  apply List.ext_getElem
  · simp [length_beN]
  · intro i h1 h2
    rw [length_beN] at h1
    rw [beN_get]
    by_cases h : i < k
    · rw [List.getElem_append_left (by rw [length_beN]; exact h), beN_get]
      congr 1
      have e : k + j - 1 - i = j + (k - 1 - i) := by omega
      rw [e, Nat.pow_add, ← Nat.div_div_eq_div_mul, Nat.mul_comm a, Nat.mul_add_div (Nat.pow_pos (by omega)), Nat.div_eq_of_lt hx, Nat.add_zero]
    · rw [List.getElem_append_right (by rw [length_beN]; omega), beN_get]
      simp only [length_beN]
      have e : k + j - 1 - i = j - 1 - (i - k) := by omega
      rw [e]
      apply UInt8.toNat_inj.1
      rw [UInt8.toNat_ofNat', UInt8.toNat_ofNat']
      have hp : 256 ^ j = 256 ^ (j - 1 - (i - k)) * (256 * 256 ^ (i - k)) := by
        rw [← Nat.mul_assoc, ← Nat.pow_succ, ← Nat.pow_add]
        congr 1
        omega
      rw [hp, ← Nat.mul_assoc, Nat.mul_comm a, Nat.mul_assoc, Nat.mul_add_div (Nat.pow_pos (by omega))]
      have : a * (256 * 256 ^ (i - k)) = 256 * (a * 256 ^ (i - k)) := by rw [Nat.mul_left_comm]
      rw [this, Nat.mul_add_mod]

theorem beN_snoc (n k : Nat) : beN n (k + 1) = beN (n / 256) k ++ [UInt8.ofNat n] := by
  have h := beN_cat (n / 256) (n % 256) k 1 (by omega)
  rw [Nat.pow_one, show n / 256 * 256 + n % 256 = n by omega] at h
  rw [h]
  congr 1
  simp only [beN, List.range_one, List.map_cons, List.map_nil, Nat.sub_self, Nat.pow_zero, Nat.div_one]
  congr 1
  apply UInt8.toNat_inj.1
  rw [UInt8.toNat_ofNat', UInt8.toNat_ofNat']
  omega

theorem beN_take (n k j : Nat) (h : j ≤ k) : (beN n k).take (k - j) = beN (n / 256 ^ j) (k - j) := by
  apply List.ext_getElem
  · simp [length_beN]
  · intro i h1 h2
    have hi : i < k - j := by rw [length_beN] at h2; exact h2
    rw [List.getElem_take, beN_get, beN_get, Nat.div_div_eq_div_mul, ← Nat.pow_add]
    congr 3
    omega

/-- Bytes as a number. -/
def valB (xs : List UInt8) : Nat := xs.foldl (fun a c => a * 256 + c.toNat) 0
theorem valB_snoc (xs : List UInt8) (c : UInt8) : valB (xs ++ [c]) = valB xs * 256 + c.toNat := by simp [valB]
theorem snoc_ind {M : List UInt8 → Prop} (h0 : M []) (h1 : ∀ xs c, M xs → M (xs ++ [c])) (xs : List UInt8) : M xs := by
  have key : ∀ ys : List UInt8, M ys.reverse := by
    intro ys
    induction ys with
    | nil => exact h0
    | cons c ys ih => rw [List.reverse_cons]; exact h1 _ c ih
  have := key xs.reverse
  rwa [List.reverse_reverse] at this
theorem valB_lt (xs : List UInt8) : valB xs < 256 ^ xs.length := by
  induction xs using snoc_ind with
  | h0 => simp [valB]
  | h1 xs c ih =>
    rw [valB_snoc, List.length_append, List.length_singleton, Nat.pow_succ]
    have := c.toNat_lt
    omega
theorem beN_valB (xs : List UInt8) : beN (valB xs) xs.length = xs := by
  induction xs using snoc_ind with
  | h0 => rfl
  | h1 xs c ih =>
    rw [valB_snoc, List.length_append, List.length_singleton, beN_snoc]
    have hc := c.toNat_lt
    have h1 : (valB xs * 256 + c.toNat) / 256 = valB xs := by omega
    rw [h1, ih]
    congr 2
    apply UInt8.toNat_inj.1
    rw [UInt8.toNat_ofNat']
    omega
theorem valB_beN (k : Nat) : ∀ n, valB (beN n k) = n % 256 ^ k := by
  induction k with
  | zero => intro n; simp [beN, valB, Nat.mod_one]
  | succ k ih =>
    intro n
    rw [beN_snoc, valB_snoc, ih, UInt8.toNat_ofNat']
    have e : n % 256 ^ (k + 1) = n % 256 + 256 * (n / 256 % 256 ^ k) := by rw [Nat.pow_succ, Nat.mul_comm (256 ^ k) 256, Nat.mod_mul]
    rw [e]
    omega
/-- A byte of a row, as a part of the number. -/
theorem byte_val (xs : List UInt8) (i : Nat) (h : i < xs.length) : xs[i].toNat = valB xs / 256 ^ (xs.length - 1 - i) % 256 := by
  have e := beN_valB xs
  have h2 : (beN (valB xs) xs.length)[i]'(by rw [length_beN]; exact h) = xs[i] := by congr 1
  rw [← h2, beN_get, UInt8.toNat_ofNat']

/-! ### Parts of a number -/

theorem part_mod (x a s k : Nat) (h : s + k ≤ a) : x % 2 ^ a / 2 ^ s % 2 ^ k = x / 2 ^ s % 2 ^ k := by
  have e : 2 ^ a = 2 ^ s * 2 ^ (a - s) := by rw [← Nat.pow_add]; congr 1; omega
  rw [e, Nat.mod_mul_right_div_self, Nat.mod_mod_of_dvd]
  exact Nat.pow_dvd_pow 2 (by omega)

/-- The bits from p on up to q of a row of T bits. -/
def mid (B T p q : Nat) : Nat := B / 2 ^ (T - q) % 2 ^ (q - p)
theorem mid_lt (B T p q : Nat) : mid B T p q < 2 ^ (q - p) := Nat.mod_lt _ (Nat.pow_pos (by omega))
theorem mid_none (B T p : Nat) : mid B T p p = 0 := by unfold mid; rw [Nat.sub_self, Nat.pow_zero, Nat.mod_one]
theorem mid_more (B T p q k : Nat) (hp : p ≤ q) (hq : q + k ≤ T) : mid B T p (q + k) = mid B T p q * 2 ^ k + mid B T q (q + k) := by
  unfold mid
  have e1 : T - q = (T - (q + k)) + k := by omega
  have e2 : q + k - p = k + (q - p) := by omega
  have e3 : q + k - q = k := by omega
  rw [e1, Nat.pow_add, ← Nat.div_div_eq_div_mul, e2, e3, Nat.pow_add, Nat.mod_mul]
  generalize B / 2 ^ (T - (q + k)) = x
  rw [Nat.add_comm, Nat.mul_comm]
/-- Bits that lie in one byte. -/
theorem mid_byte (xs : List UInt8) (p k : Nat) (h : p / 8 < xs.length) (hk : p % 8 + k ≤ 8) : mid (valB xs) (8 * xs.length) p (p + k) = xs[p / 8].toNat / 2 ^ (8 - p % 8 - k) % 2 ^ k := by
  rw [byte_val xs (p / 8) h]
  have e8 : (256 : Nat) = 2 ^ 8 := rfl
  rw [e8, ← Nat.pow_mul, part_mod _ 8 _ k (by omega), Nat.div_div_eq_div_mul, ← Nat.pow_add]
  unfold mid
  have e1 : 8 * xs.length - (p + k) = 8 * (xs.length - 1 - p / 8) + (8 - p % 8 - k) := by omega
  have e2 : p + k - p = k := by omega
  rw [e1, e2]

/-! ### Words, the last one first -/

def cval : List Nat → Nat
  | [] => 0
  | x :: r => cval r * 2 ^ 64 + x

theorem cval_cons (x : Nat) (r : List Nat) : cval (x :: r) = cval r * 2 ^ 64 + x := rfl

/-- The number that a writer holds, and how many bits: full words, and m bits more. -/
def wval (ws : List Nat) (r m : Nat) : Nat := cval ws * 2 ^ m + r % 2 ^ m
def wlen (ws : List Nat) (m : Nat) : Nat := 64 * ws.length + m

/-- There is room in the last word. -/
theorem put_room (ws : List Nat) (r m n v : Nat) (h : m + n < 64) (hv : v < 2 ^ n) : wval ws ((r * 2 ^ n) % 2 ^ 64 + v) (m + n) = wval ws r m * 2 ^ n + v := by
  unfold wval
  have e : ((r * 2 ^ n) % 2 ^ 64 + v) % 2 ^ (m + n) = r % 2 ^ m * 2 ^ n + v := by
    have h1 : (r * 2 ^ n) % 2 ^ 64 % 2 ^ (m + n) = (r * 2 ^ n) % 2 ^ (m + n) := Nat.mod_mod_of_dvd _ (Nat.pow_dvd_pow 2 (by omega))
    rw [Nat.add_mod, h1, Nat.pow_add, Nat.mul_mod_mul_right, Nat.mod_eq_of_lt (a := v), Nat.mod_eq_of_lt]
    · have h2 := Nat.mod_lt r (show 0 < 2 ^ m from Nat.pow_pos (by omega))
      have h3 : (r % 2 ^ m + 1) * 2 ^ n ≤ 2 ^ m * 2 ^ n := Nat.mul_le_mul_right _ h2
      rw [Nat.add_mul] at h3
      omega
    · have : 1 * 2 ^ n ≤ 2 ^ m * 2 ^ n := Nat.mul_le_mul_right _ (Nat.pow_pos (by omega))
      omega
  rw [e, Nat.pow_add, Nat.add_mul, ← Nat.mul_assoc, Nat.add_assoc]
/-- The last word becomes full. -/
theorem put_full (ws : List Nat) (r m n v : Nat) (hm : m < 64) (h : 64 ≤ m + n) (hv : v < 2 ^ n) :
    wval (((r * 2 ^ (64 - m)) % 2 ^ 64 + v / 2 ^ (n - (64 - m))) :: ws) v (n - (64 - m)) = wval ws r m * 2 ^ n + v := by
  unfold wval
  rw [cval_cons]
  obtain ⟨o, ho⟩ : ∃ o, o = n - (64 - m) := ⟨_, rfl⟩
  rw [← ho]
  have e1 : (r * 2 ^ (64 - m)) % 2 ^ 64 = r % 2 ^ m * 2 ^ (64 - m) := by
    have : (2 : Nat) ^ 64 = 2 ^ m * 2 ^ (64 - m) := by rw [← Nat.pow_add]; congr 1; omega
    rw [this, Nat.mul_mod_mul_right]
  rw [e1]
  have e2 : n = (64 - m) + o := by omega
  have e3 : (2 : Nat) ^ 64 = 2 ^ m * 2 ^ (64 - m) := by rw [← Nat.pow_add]; congr 1; omega
  have e4 : v = v / 2 ^ o * 2 ^ o + v % 2 ^ o := (Nat.div_add_mod' v (2 ^ o)).symm
  rw [e2, Nat.pow_add, e3]
  generalize cval ws = C
  generalize hR : r % 2 ^ m = R
  generalize hq : v / 2 ^ o = q at *
  generalize hz : v % 2 ^ o = z at *
  rw [e4]
  generalize 2 ^ m = M
  generalize 2 ^ (64 - m) = N
  generalize 2 ^ o = O
  simp only [Nat.add_mul, Nat.mul_assoc, Nat.add_assoc]
theorem put_word_lt (r m n v : Nat) (hm : m < 64) (h : 64 ≤ m + n) (hv : v < 2 ^ n) : (r * 2 ^ (64 - m)) % 2 ^ 64 + v / 2 ^ (n - (64 - m)) < 2 ^ 64 := by
  have e1 : (r * 2 ^ (64 - m)) % 2 ^ 64 = r % 2 ^ m * 2 ^ (64 - m) := by
    have : (2 : Nat) ^ 64 = 2 ^ m * 2 ^ (64 - m) := by rw [← Nat.pow_add]; congr 1; omega
    rw [this, Nat.mul_mod_mul_right]
  have e3 : (2 : Nat) ^ 64 = 2 ^ m * 2 ^ (64 - m) := by rw [← Nat.pow_add]; congr 1; omega
  have h2 := Nat.mod_lt r (show 0 < 2 ^ m from Nat.pow_pos (by omega))
  have h3 : (r % 2 ^ m + 1) * 2 ^ (64 - m) ≤ 2 ^ m * 2 ^ (64 - m) := Nat.mul_le_mul_right _ h2
  have h4 : v / 2 ^ (n - (64 - m)) < 2 ^ (64 - m) := by
    rw [Nat.div_lt_iff_lt_mul (Nat.pow_pos (by omega)), ← Nat.pow_add]
    rw [show 64 - m + (n - (64 - m)) = n by omega]
    exact hv
  rw [e1, e3]
  rw [Nat.add_mul] at h3
  omega

/-- The bytes of a row of bits, with noughts behind. -/
def bytesW (L V : Nat) : List UInt8 := beN (V * 2 ^ (8 * ((L + 7) / 8) - L)) ((L + 7) / 8)
theorem length_bytesW (L V : Nat) : (bytesW L V).length = (L + 7) / 8 := length_beN _ _

/-- Words as bytes: the full ones from the first to the last one, then what is behind. -/
def wordsB (us : List Nat) : List UInt8 := us.flatMap fun v => beN v 8
theorem wordsB_snoc (us : List Nat) (v : Nat) : wordsB (us ++ [v]) = wordsB us ++ beN v 8 := by simp [wordsB]
theorem wordsB_rev : ∀ (ws : List Nat), (∀ x ∈ ws, x < 2 ^ 64) → wordsB ws.reverse = beN (cval ws) (8 * ws.length)
  | [], _ => rfl
  | x :: r, h => by
    rw [List.reverse_cons, wordsB_snoc, wordsB_rev r (fun y hy => h y (by simp [hy])), List.length_cons, show 8 * (r.length + 1) = 8 * r.length + 8 by omega]
    have hx : x < 256 ^ 8 := by have := h x (by simp); omega
    rw [cval_cons, show (2 : Nat) ^ 64 = 256 ^ 8 from rfl, beN_cat _ _ _ _ hx]

theorem bytes_all (ws : List Nat) (r m : Nat) (hm : m < 64) (h : ∀ x ∈ ws, x < 2 ^ 64) :
    (wordsB (ws.reverse ++ [r * 2 ^ (64 - m) % 2 ^ 64])).take (8 * (ws.length + 1) - (64 - m) / 8) = bytesW (wlen ws m) (wval ws r m) := by
  have e3 : (2 : Nat) ^ 64 = 2 ^ m * 2 ^ (64 - m) := by rw [← Nat.pow_add]; congr 1; omega
  have e1 : (r * 2 ^ (64 - m)) % 2 ^ 64 = r % 2 ^ m * 2 ^ (64 - m) := by rw [e3, Nat.mul_mod_mul_right]
  have hlt : r % 2 ^ m * 2 ^ (64 - m) < 256 ^ 8 := by
    have h2 := Nat.mod_lt r (show 0 < 2 ^ m from Nat.pow_pos (by omega))
    have h3 : (r % 2 ^ m) * 2 ^ (64 - m) < 2 ^ m * 2 ^ (64 - m) := Nat.mul_lt_mul_of_pos_right h2 (Nat.pow_pos (by omega))
    rw [← e3] at h3
    exact h3
  have e5 : cval ws * 256 ^ 8 + r % 2 ^ m * 2 ^ (64 - m) = wval ws r m * 2 ^ (64 - m) := by
    unfold wval
    rw [show (256 : Nat) ^ 8 = 2 ^ 64 from rfl, e3, Nat.add_mul, Nat.mul_assoc]
  rw [e1, wordsB_snoc, wordsB_rev ws h, ← beN_cat _ _ _ _ hlt, e5, show 8 * ws.length + 8 = 8 * (ws.length + 1) by omega, beN_take _ _ _ (by omega)]
  unfold bytesW wlen
  have e6 : (64 * ws.length + m + 7) / 8 = 8 * (ws.length + 1) - (64 - m) / 8 := by omega
  rw [e6]
  congr 1
  have e7 : (256 : Nat) ^ ((64 - m) / 8) = 2 ^ (8 * ((64 - m) / 8)) := by rw [show (256 : Nat) = 2 ^ 8 from rfl, ← Nat.pow_mul]
  have e8 : 64 - m = (8 * (8 * (ws.length + 1) - (64 - m) / 8) - (64 * ws.length + m)) + 8 * ((64 - m) / 8) := by omega
  rw [e7]
  conv => lhs; lhs; rw [e8, Nat.pow_add, ← Nat.mul_assoc]
  rw [Nat.mul_div_cancel _ (Nat.pow_pos (by omega))]
end BitM
