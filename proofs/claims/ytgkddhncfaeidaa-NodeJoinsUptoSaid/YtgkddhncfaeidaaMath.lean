/- The plain arithmetic of the sum of layer 2: a step, eight steps, a byte's step; that they are linear, that a byte's step by the table is eight steps of one bit. No program is named here. -/
namespace Go.Proofs.Ytgkddhncfaeidaa
namespace CrcM

/-- What a bit 0 makes of a number. -/
def stp (x : BitVec 32) : BitVec 32 := if x.getLsbD 0 then (x >>> 1) ^^^ 2197175160#32 else x >>> 1

/-- So many steps. -/
def stps : Nat → BitVec 32 → BitVec 32
  | 0, x => x
  | k + 1, x => stp (stps k x)

/-- The table's place i. -/
def tb (i : Nat) : BitVec 32 := stps 8 (BitVec.ofNat 32 i)

/-- A byte's step by the table. -/
def byteStep (x : BitVec 32) (c : UInt8) : BitVec 32 := (x >>> 8) ^^^ tb ((x.toNat % 256) ^^^ c.toNat)

/-- A row of bytes. -/
def run (x : BitVec 32) (l : List UInt8) : BitVec 32 := l.foldl byteStep x

/-- Behind: of a sum, and bytes behind. -/
def behind (s : BitVec 32) (l : List UInt8) : BitVec 32 := ~~~ run (~~~ s) l

/-- The sum of bytes. -/
def sum (l : List UInt8) : BitVec 32 := behind 0 l

theorem stp_xor (x y : BitVec 32) : stp (x ^^^ y) = stp x ^^^ stp y := by
  unfold stp
  rw [BitVec.getLsbD_xor, BitVec.ushiftRight_xor_distrib]
  cases x.getLsbD 0 <;> cases y.getLsbD 0 <;> simp only [Bool.xor_self, Bool.xor_false, Bool.xor_true, Bool.not_false, Bool.false_eq_true, ↓reduceIte]
  · ac_rfl
  · ac_rfl
  · have h : ∀ a b d : BitVec 32, a ^^^ b = (a ^^^ d) ^^^ (b ^^^ d) := fun a b d => by
      have : (a ^^^ d) ^^^ (b ^^^ d) = (a ^^^ b) ^^^ (d ^^^ d) := by ac_rfl
      rw [this, BitVec.xor_self, BitVec.xor_zero]
    exact h _ _ _

theorem stp_zero : stp 0 = 0 := by decide

theorem stps_xor (k : Nat) (x y : BitVec 32) : stps k (x ^^^ y) = stps k x ^^^ stps k y := by
  induction k with
  | zero => rfl
  | succ k ih => simp only [stps, ih, stp_xor]

theorem stps_zero (k : Nat) : stps k 0 = 0 := by
  induction k with
  | zero => rfl
  | succ k ih => simp only [stps, ih, stp_zero]

theorem stps_add (j k : Nat) (x : BitVec 32) : stps (j + k) x = stps j (stps k x) := by
  induction j with
  | zero => simp [stps]
  | succ j ih => rw [Nat.succ_add]; simp only [stps, ih]

/-- A step of an even number shifts. -/
theorem stp_even {x : BitVec 32} (h : x.getLsbD 0 = false) : stp x = x >>> 1 := by
  unfold stp
  rw [h]
  rfl

theorem stp_shl1 (h : BitVec 32) (hh : h.toNat < 2147483648) : stp (h <<< 1) = h := by
  rw [stp_even (by simp)]
  apply BitVec.eq_of_toNat_eq
  rw [BitVec.toNat_ushiftRight, BitVec.toNat_shiftLeft, Nat.shiftRight_eq_div_pow, Nat.shiftLeft_eq]
  omega

/-- Numbers that have noughts below go down unchanged. -/
theorem stps_shl (k : Nat) : ∀ (h : BitVec 32), h.toNat * 2 ^ k < 4294967296 → stps k (h <<< k) = h := by
  induction k with
  | zero => intro h _; simp [stps]
  | succ k ih =>
    intro h hh
    have h2 : 2 ^ (k + 1) = 2 * 2 ^ k := by rw [Nat.pow_succ]; omega
    have hlt : h.toNat < 2147483648 := by
      have hp : 1 ≤ 2 ^ k := Nat.one_le_two_pow
      have : h.toNat * 2 ≤ h.toNat * 2 ^ (k + 1) := Nat.mul_le_mul_left _ (by omega)
      omega
    have e : h <<< (k + 1) = (h <<< 1) <<< k := by rw [Nat.add_comm, BitVec.shiftLeft_add]
    have hn : (h <<< 1).toNat = h.toNat * 2 := by
      rw [BitVec.toNat_shiftLeft, Nat.shiftLeft_eq]
      omega
    simp only [stps]
    rw [e, ih (h <<< 1) (by rw [hn, Nat.mul_assoc]; rw [h2] at hh; omega)]
    exact stp_shl1 h hlt

theorem ofNat_xor (a b : Nat) : BitVec.ofNat 32 (a ^^^ b) = BitVec.ofNat 32 a ^^^ BitVec.ofNat 32 b := by
  apply BitVec.eq_of_toNat_eq
  rw [BitVec.toNat_xor]
  simp only [BitVec.toNat_ofNat]
  exact Nat.xor_mod_two_pow

/-- A number is its low byte and the rest. -/
theorem split8 (x : BitVec 32) : x = BitVec.ofNat 32 (x.toNat % 256) ^^^ ((x >>> 8) <<< 8) := by
  apply BitVec.eq_of_getLsbD_eq
  intro i hi
  simp only [BitVec.getLsbD_xor, BitVec.getLsbD_shiftLeft, BitVec.getLsbD_ushiftRight, BitVec.getLsbD_ofNat]
  rw [show (256 : Nat) = 2 ^ 8 from rfl, Nat.testBit_mod_two_pow]
  by_cases h : i < 8
  · simp [h, hi, BitVec.testBit_toNat]
  · have e : 8 + (i - 8) = i := by omega
    simp [h, hi, e]

/-- A byte's step by the table is eight steps. -/
theorem byteStep_eq (x : BitVec 32) (c : UInt8) : byteStep x c = stps 8 (x ^^^ BitVec.ofNat 32 c.toNat) := by
  have hs := split8 x
  have e : x ^^^ BitVec.ofNat 32 c.toNat = BitVec.ofNat 32 ((x.toNat % 256) ^^^ c.toNat) ^^^ ((x >>> 8) <<< 8) := by
    rw [ofNat_xor]
    calc x ^^^ BitVec.ofNat 32 c.toNat = (BitVec.ofNat 32 (x.toNat % 256) ^^^ ((x >>> 8) <<< 8)) ^^^ BitVec.ofNat 32 c.toNat := by rw [← hs]
      _ = _ := by ac_rfl
  rw [e, stps_xor, stps_shl 8 (x >>> 8) (by
    rw [BitVec.toNat_ushiftRight, Nat.shiftRight_eq_div_pow]
    have := x.isLt
    omega)]
  unfold byteStep tb
  rw [BitVec.xor_comm]

/-- One bit's step, as the chapter says it. -/
def bitStep (x : BitVec 32) (b : Bool) : BitVec 32 := stp (x ^^^ (if b then 1 else 0))

/-- The first j bits of a byte. -/
def bitsOf (x : BitVec 32) (c : Nat) : Nat → BitVec 32
  | 0 => x
  | j + 1 => bitStep (bitsOf x c j) (c.testBit j)

theorem bitsOf_eq (x : BitVec 32) (c : Nat) : ∀ j, j ≤ 32 → bitsOf x c j = stps j (x ^^^ BitVec.ofNat 32 (c % 2 ^ j)) := by
  intro j
  induction j with
  | zero => intro _; simp [bitsOf, stps, Nat.mod_one]
  | succ j ih =>
    intro hj
    simp only [bitsOf, stps, bitStep]
    rw [ih (by omega)]
    congr 1
    have hb : (if c.testBit j then (1 : BitVec 32) else 0) = stps j ((if c.testBit j then (1 : BitVec 32) else 0) <<< j) := by
      rw [stps_shl]
      have : 2 ^ j < 4294967296 := by
        have : 2 ^ j ≤ 2 ^ 31 := Nat.pow_le_pow_right (by omega) (by omega)
        omega
      split
      · simpa using this
      · simp
    rw [hb, ← stps_xor, BitVec.xor_assoc]
    congr 2
    apply BitVec.eq_of_getLsbD_eq
    intro i hi
    simp only [BitVec.getLsbD_xor, BitVec.getLsbD_shiftLeft, BitVec.getLsbD_ofNat, Nat.testBit_mod_two_pow]
    by_cases h1 : i < j
    · have h2 : i < j + 1 := by omega
      simp [h1, h2, hi]
    · by_cases h2 : i = j
      · subst h2
        cases hc : c.testBit i <;> simp [hi]
      · have h3 : ¬ i < j + 1 := by omega
        have h4 : ¬ i - j = 0 := by omega
        cases hc : c.testBit j <;> simp [h1, h3, hi, h4]

theorem bitsOf_byte (x : BitVec 32) (c : UInt8) : bitsOf x c.toNat 8 = byteStep x c := by
  rw [bitsOf_eq x c.toNat 8 (by omega), byteStep_eq, Nat.mod_eq_of_lt (by have := c.toNat_lt; omega)]

theorem run_append (x : BitVec 32) (a b : List UInt8) : run x (a ++ b) = run (run x a) b := by simp [run]

theorem behind_sum (a b : List UInt8) : behind (sum a) b = sum (a ++ b) := by
  unfold sum behind
  rw [BitVec.not_not, run_append]

theorem byteStep_xor (x y : BitVec 32) (c d : UInt8) : byteStep (x ^^^ y) (c ^^^ d) = byteStep x c ^^^ byteStep y d := by
  rw [byteStep_eq, byteStep_eq, byteStep_eq, ← stps_xor]
  congr 1
  rw [UInt8.toNat_xor, ofNat_xor]
  ac_rfl

theorem byteStep_zero : byteStep 0 0 = 0 := by decide

/-! ### Bit by bit over a row of bytes -/

def bitAt (l : List UInt8) (i : Nat) : Bool := (l.getD (i / 8) 0).toNat.testBit (i % 8)
def rbits (l : List UInt8) : Nat → BitVec 32
  | 0 => 4294967295#32
  | k + 1 => bitStep (rbits l k) (bitAt l k)

theorem rbits_in (l : List UInt8) (q : Nat) : ∀ j, j ≤ 8 → rbits l (8 * q + j) = bitsOf (rbits l (8 * q)) (l.getD q 0).toNat j := by
  intro j
  induction j with
  | zero => intro _; rfl
  | succ j ih =>
    intro hj
    rw [← Nat.add_assoc]
    simp only [rbits, bitsOf]
    rw [ih (by omega)]
    unfold bitAt
    rw [show (8 * q + j) / 8 = q by omega, show (8 * q + j) % 8 = j by omega]

theorem rbits_take (l : List UInt8) : ∀ q, q ≤ l.length → rbits l (8 * q) = run 4294967295#32 (l.take q) := by
  intro q
  induction q with
  | zero => intro _; rfl
  | succ q ih =>
    intro hq
    have hlt : q < l.length := by omega
    rw [show 8 * (q + 1) = 8 * q + 8 by omega, rbits_in l q 8 (by omega), bitsOf_byte, ih (by omega)]
    rw [List.take_succ_eq_append_getElem hlt, run_append]
    simp [run, List.getD, List.getElem?_eq_getElem hlt]

theorem rbits_all (l : List UInt8) : ~~~ rbits l (8 * l.length) = sum l := by
  rw [rbits_take l l.length (by omega), List.take_length]
  rfl

/-! ### Three rows of one length -/

def xor3 : List UInt8 → List UInt8 → List UInt8 → List UInt8
  | a :: as, b :: bs, c :: cs => (a ^^^ b ^^^ c) :: xor3 as bs cs
  | _, _, _ => []

theorem run_xor3 (as : List UInt8) : ∀ (bs cs : List UInt8), bs.length = as.length → cs.length = as.length → ∀ p q r : BitVec 32,
    run (p ^^^ q ^^^ r) (xor3 as bs cs) = run p as ^^^ run q bs ^^^ run r cs := by
  induction as with
  | nil =>
    intro bs cs hb hc p q r
    obtain rfl := List.eq_nil_of_length_eq_zero hb
    obtain rfl := List.eq_nil_of_length_eq_zero hc
    rfl
  | cons a as ih =>
    intro bs cs hb hc p q r
    match bs, cs, hb, hc with
    | b :: bs, c :: cs, hb, hc =>
      simp only [xor3, run, List.foldl_cons]
      rw [byteStep_xor, byteStep_xor]
      exact ih bs cs (by simpa using hb) (by simpa using hc) _ _ _

theorem sum_xor3 (as bs cs : List UInt8) (hb : bs.length = as.length) (hc : cs.length = as.length) : sum (xor3 as bs cs) = sum as ^^^ sum bs ^^^ sum cs := by
  have h := run_xor3 as bs cs hb hc (~~~ 0) (~~~ 0) (~~~ 0)
  have e : (~~~ 0 : BitVec 32) ^^^ ~~~ 0 ^^^ ~~~ 0 = ~~~ 0 := by decide
  rw [e] at h
  unfold sum behind
  rw [h]
  have n3 : ∀ x y z : BitVec 32, ~~~ (x ^^^ y ^^^ z) = ~~~ x ^^^ ~~~ y ^^^ ~~~ z := by
    intro x y z
    apply BitVec.eq_of_getLsbD_eq
    intro i hi
    simp only [BitVec.getLsbD_not, BitVec.getLsbD_xor, hi, decide_true, Bool.true_and]
    cases x.getLsbD i <;> cases y.getLsbD i <;> cases z.getLsbD i <;> rfl
  exact n3 _ _ _

theorem length_xor3 (as : List UInt8) : ∀ (bs cs : List UInt8), bs.length = as.length → cs.length = as.length → (xor3 as bs cs).length = as.length := by
  induction as with
  | nil => intro bs cs _ _; rfl
  | cons a as ih =>
    intro bs cs hb hc
    match bs, cs, hb, hc with
    | b :: bs, c :: cs, hb, hc => simp only [xor3, List.length_cons]; rw [ih bs cs (by simpa using hb) (by simpa using hc)]

theorem getD_xor3 (as : List UInt8) : ∀ (bs cs : List UInt8), bs.length = as.length → cs.length = as.length → ∀ i, (xor3 as bs cs).getD i 0 = as.getD i 0 ^^^ bs.getD i 0 ^^^ cs.getD i 0 := by
  induction as with
  | nil =>
    intro bs cs hb hc i
    obtain rfl := List.eq_nil_of_length_eq_zero hb
    obtain rfl := List.eq_nil_of_length_eq_zero hc
    simp [xor3]
  | cons a as ih =>
    intro bs cs hb hc i
    match bs, cs, hb, hc with
    | b :: bs, c :: cs, hb, hc =>
      cases i with
      | zero => simp [xor3]
      | succ i => simpa [xor3] using ih bs cs (by simpa using hb) (by simpa using hc) i

/-! ### Bits that are turned -/

theorem xor_nought (x : BitVec 32) : x ^^^ 0 = x := BitVec.xor_zero
theorem nought_xor (x : BitVec 32) : 0 ^^^ x = x := BitVec.zero_xor

theorem stp_zero_only {x : BitVec 32} (h : stp x = 0) : x = 0 := by
  unfold stp at h
  by_cases h0 : x.getLsbD 0 = true
  · rw [if_pos h0] at h
    have e : x >>> 1 = 2197175160#32 := by
      have := congrArg (· ^^^ 2197175160#32) h
      simpa [BitVec.xor_assoc] using this
    have e2 := congrArg BitVec.toNat e
    rw [BitVec.toNat_ushiftRight, Nat.shiftRight_eq_div_pow] at e2
    have := x.isLt
    simp at e2
    omega
  · rw [if_neg h0] at h
    have e2 := congrArg BitVec.toNat h
    rw [BitVec.toNat_ushiftRight, Nat.shiftRight_eq_div_pow] at e2
    have h1 : x.toNat % 2 = 0 := by
      rw [← BitVec.testBit_toNat, Nat.testBit_zero] at h0
      simp at h0
      exact h0
    apply BitVec.eq_of_toNat_eq
    simp at e2 ⊢
    omega

theorem stps_zero_only (k : Nat) {x : BitVec 32} (h : stps k x = 0) : x = 0 := by
  induction k with
  | zero => exact h
  | succ k ih => exact ih (stp_zero_only h)

/-- What comes of the bits that are turned alone. -/
def dif (e : Nat → Bool) : Nat → BitVec 32
  | 0 => 0
  | j + 1 => bitStep (dif e j) (e j)

theorem bitStep_xor (x y : BitVec 32) (a b : Bool) : bitStep (x ^^^ y) (a ^^ b) = bitStep x a ^^^ bitStep y b := by
  unfold bitStep
  rw [← stp_xor]
  congr 1
  have hb : (if (a ^^ b) = true then (1 : BitVec 32) else 0) = (if a = true then 1 else 0) ^^^ (if b = true then 1 else 0) := by cases a <;> cases b <;> rfl
  rw [hb]
  ac_rfl

theorem rbits_dif (l l' : List UInt8) (e : Nat → Bool) : ∀ n, (∀ j, j < n → bitAt l' j = (bitAt l j ^^ e j)) → rbits l' n = rbits l n ^^^ dif e n := by
  intro n
  induction n with
  | zero => intro _; simp [rbits, dif]
  | succ n ih =>
    intro h
    simp only [rbits, dif]
    rw [ih (fun j hj => h j (by omega)), h n (by omega), bitStep_xor]

def burst (k t : Nat) (j : Nat) : Bool := decide (k ≤ j) && (decide (j < k + 32) && t.testBit (j - k))

theorem dif_ahead (k t : Nat) : ∀ j, j ≤ k → dif (burst k t) j = 0 := by
  intro j
  induction j with
  | zero => intro _; rfl
  | succ j ih =>
    intro hj
    simp only [dif]
    rw [ih (by omega)]
    have : burst k t j = false := by simp [burst]; omega
    rw [this]
    decide

theorem dif_in (k t : Nat) : ∀ j, j ≤ 32 → dif (burst k t) (k + j) = bitsOf 0 t j := by
  intro j
  induction j with
  | zero => intro _; exact dif_ahead k t k (Nat.le_refl _)
  | succ j ih =>
    intro hj
    rw [← Nat.add_assoc]
    simp only [dif, bitsOf]
    rw [ih (by omega)]
    have : burst k t (k + j) = t.testBit j := by
      unfold burst
      rw [Nat.add_sub_cancel_left]
      simp
      omega
    rw [this]

theorem dif_behind (k t : Nat) : ∀ m, dif (burst k t) (k + 32 + m) = stps m (dif (burst k t) (k + 32)) := by
  intro m
  induction m with
  | zero => rfl
  | succ m ih =>
    rw [← Nat.add_assoc]
    show bitStep (dif (burst k t) (k + 32 + m)) (burst k t (k + 32 + m)) = stp (stps m (dif (burst k t) (k + 32)))
    rw [ih]
    have : burst k t (k + 32 + m) = false := by simp [burst]; omega
    rw [this]
    generalize stps m (dif (burst k t) (k + 32)) = d
    show stp (d ^^^ 0) = stp d
    rw [xor_nought]

/-- Up to 32 bits side by side that were turned are told. -/
theorem burst_told (l l' : List UInt8) (k t : Nat) (ht : t < 4294967296) (hl : l'.length = l.length) (hk : k + 32 ≤ 8 * l.length)
    (h : ∀ j, j < 8 * l.length → bitAt l' j = (bitAt l j ^^ burst k t j)) : sum l' = sum l ↔ t = 0 := by
  have hr := rbits_dif l l' (burst k t) (8 * l.length) h
  obtain ⟨m, hm⟩ : ∃ m, 8 * l.length = k + 32 + m := ⟨8 * l.length - k - 32, by omega⟩
  have hd : dif (burst k t) (8 * l.length) = stps m (stps 32 (BitVec.ofNat 32 t)) := by
    rw [hm, dif_behind, dif_in k t 32 (Nat.le_refl _), bitsOf_eq 0 t 32 (Nat.le_refl _), nought_xor, Nat.mod_eq_of_lt (by omega)]
  have hs : sum l' = ~~~ (rbits l (8 * l.length) ^^^ stps m (stps 32 (BitVec.ofNat 32 t))) := by
    rw [← rbits_all, hl, hr, hd]
  constructor
  · intro e
    rw [hs, ← rbits_all l] at e
    have e1 : rbits l (8 * l.length) ^^^ stps m (stps 32 (BitVec.ofNat 32 t)) = rbits l (8 * l.length) := by
      have := congrArg (~~~ ·) e
      simpa using this
    have e2 : stps m (stps 32 (BitVec.ofNat 32 t)) = 0 := by
      have := congrArg (rbits l (8 * l.length) ^^^ ·) e1
      simpa [← BitVec.xor_assoc] using this
    have e3 := stps_zero_only 32 (stps_zero_only m e2)
    have e4 := congrArg BitVec.toNat e3
    rw [BitVec.toNat_ofNat, Nat.mod_eq_of_lt ht] at e4
    simpa using e4
  · rintro rfl
    rw [hs, show BitVec.ofNat 32 0 = 0 from rfl, stps_zero, stps_zero, xor_nought, rbits_all]

/-- The bit j of a row is turned. -/
def flipAt (l : List UInt8) (j : Nat) : List UInt8 := l.set (j / 8) (l.getD (j / 8) 0 ^^^ UInt8.ofNat (2 ^ (j % 8)))
def flips (l : List UInt8) (k t : Nat) : Nat → List UInt8
  | 0 => l
  | i + 1 => if t.testBit i then flipAt (flips l k t i) (k + i) else flips l k t i

theorem length_flipAt (l : List UInt8) (j : Nat) : (flipAt l j).length = l.length := by simp [flipAt]
theorem length_flips (l : List UInt8) (k t : Nat) : ∀ i, (flips l k t i).length = l.length := by
  intro i
  induction i with
  | zero => rfl
  | succ i ih =>
    simp only [flips]
    split
    · rw [length_flipAt, ih]
    · exact ih

theorem pow_lt_256 {i : Nat} (h : i < 8) : 2 ^ i < 256 := by
  have : 2 ^ i ≤ 2 ^ 7 := Nat.pow_le_pow_right (by omega) (by omega)
  omega

theorem bitAt_flipAt (l : List UInt8) (j : Nat) (hj : j / 8 < l.length) (m : Nat) : bitAt (flipAt l j) m = (bitAt l m ^^ decide (m = j)) := by
  unfold bitAt flipAt
  by_cases hq : m / 8 = j / 8
  · rw [hq]
    have e : (l.set (j / 8) (l.getD (j / 8) 0 ^^^ UInt8.ofNat (2 ^ (j % 8)))).getD (j / 8) 0 = l.getD (j / 8) 0 ^^^ UInt8.ofNat (2 ^ (j % 8)) := by
      simp [List.getD, hj]
    rw [e, UInt8.toNat_xor, Nat.testBit_xor]
    congr 1
    rw [UInt8.toNat_ofNat', Nat.mod_eq_of_lt (pow_lt_256 (Nat.mod_lt _ (by omega))), Nat.testBit_two_pow]
    by_cases hm : m = j
    · subst hm; simp
    · have : ¬ j % 8 = m % 8 := by omega
      simp [hm, this]
  · have hm : ¬ m = j := by rintro rfl; exact hq rfl
    have e : (l.set (j / 8) (l.getD (j / 8) 0 ^^^ UInt8.ofNat (2 ^ (j % 8)))).getD (m / 8) 0 = l.getD (m / 8) 0 := by
      simp only [List.getD, List.getElem?_set, if_neg (fun e => hq (Eq.symm e))]
    rw [e]
    simp [hm]

theorem bitAt_flips (l : List UInt8) (k t : Nat) (hk : k + 32 ≤ 8 * l.length) : ∀ i, i ≤ 32 → ∀ m, bitAt (flips l k t i) m = (bitAt l m ^^ (decide (k ≤ m) && (decide (m < k + i) && t.testBit (m - k)))) := by
  intro i
  induction i with
  | zero =>
    intro _ m
    simp only [flips]
    have : (decide (k ≤ m) && (decide (m < k + 0) && t.testBit (m - k))) = false := by
      by_cases h : k ≤ m
      · have : ¬ m < k + 0 := by omega
        rw [decide_eq_false this, Bool.false_and, Bool.and_false]
      · rw [decide_eq_false h, Bool.false_and]
    rw [this, Bool.xor_false]
  | succ i ih =>
    intro hi m
    simp only [flips]
    by_cases hb : t.testBit i = true
    · rw [if_pos hb, bitAt_flipAt _ _ (by rw [length_flips]; omega), ih (by omega)]
      by_cases hm : m = k + i
      · subst hm
        have h1 : ¬ k + i < k + i := by omega
        have h2 : k + i < k + (i + 1) := by omega
        have h3 : k + i - k = i := by omega
        simp [h3, hb]
      · by_cases hk : k ≤ m
        · by_cases hlt : m < k + i
          · simp [hm, hk, hlt, show m < k + (i + 1) by omega]
          · simp [hm, hk, hlt, show ¬ m < k + (i + 1) by omega]
        · simp [hm, hk]
    · rw [if_neg hb, ih (by omega)]
      have hb' : t.testBit i = false := by simpa using hb
      by_cases hm : m = k + i
      · subst hm
        have h3 : k + i - k = i := by omega
        simp [h3, hb']
      · by_cases hk : k ≤ m
        · by_cases hlt : m < k + i
          · simp [hk, hlt, show m < k + (i + 1) by omega]
          · simp [hk, hlt, show ¬ m < k + (i + 1) by omega]
        · simp [hk]

theorem flips_told (l : List UInt8) (k t : Nat) (ht : t < 4294967296) (hk : k + 32 ≤ 8 * l.length) : sum (flips l k t 32) = sum l ↔ t = 0 :=
  burst_told l (flips l k t 32) k t ht (length_flips l k t 32) hk fun j _ => bitAt_flips l k t hk 32 (Nat.le_refl _) j

/-! ### The same on plain numbers below 4294967296: as the walks carry them -/

def stpN (n : Nat) : Nat := (stp (BitVec.ofNat 32 n)).toNat
def stpsN (k n : Nat) : Nat := (stps k (BitVec.ofNat 32 n)).toNat
def tbN (i : Nat) : Nat := (tb i).toNat
def byteN (n : Nat) (c : UInt8) : Nat := (byteStep (BitVec.ofNat 32 n) c).toNat
def rowN (n : Nat) (l : List UInt8) : Nat := (run (BitVec.ofNat 32 n) l).toNat
def behindN (n : Nat) (l : List UInt8) : Nat := (behind (BitVec.ofNat 32 n) l).toNat
def sumN (l : List UInt8) : Nat := (sum l).toNat

theorem stpN_lt (n : Nat) : stpN n < 4294967296 := (stp (BitVec.ofNat 32 n)).isLt
theorem stpsN_lt (k n : Nat) : stpsN k n < 4294967296 := (stps k (BitVec.ofNat 32 n)).isLt
theorem tbN_lt (i : Nat) : tbN i < 4294967296 := (tb i).isLt
theorem byteN_lt (n : Nat) (c : UInt8) : byteN n c < 4294967296 := (byteStep (BitVec.ofNat 32 n) c).isLt
theorem rowN_lt (n : Nat) (l : List UInt8) : rowN n l < 4294967296 := (run (BitVec.ofNat 32 n) l).isLt
theorem behindN_lt (n : Nat) (l : List UInt8) : behindN n l < 4294967296 := (behind (BitVec.ofNat 32 n) l).isLt
theorem sumN_lt (l : List UInt8) : sumN l < 4294967296 := (sum l).isLt

theorem stpsN_zero {n : Nat} (h : n < 4294967296) : stpsN 0 n = n := by
  simp only [stpsN, stps, BitVec.toNat_ofNat]
  exact Nat.mod_eq_of_lt h
theorem stpsN_succ (k n : Nat) : stpN (stpsN k n) = stpsN (k + 1) n := by
  simp only [stpN, stpsN, stps, BitVec.ofNat_toNat, BitVec.setWidth_eq]
theorem stpsN_tb (i : Nat) : stpsN 8 i = tbN i := rfl
theorem rowN_nil {n : Nat} (h : n < 4294967296) : rowN n [] = n := by
  simp only [rowN, run, List.foldl_nil, BitVec.toNat_ofNat]
  exact Nat.mod_eq_of_lt h
theorem rowN_snoc (n : Nat) (l : List UInt8) (c : UInt8) : byteN (rowN n l) c = rowN n (l ++ [c]) := by
  simp only [byteN, rowN, BitVec.ofNat_toNat, BitVec.setWidth_eq, run, List.foldl_append, List.foldl_cons, List.foldl_nil]
theorem notN {n : Nat} (h : n < 4294967296) : (~~~ BitVec.ofNat 32 n).toNat = 4294967295 - n := by
  rw [BitVec.toNat_not, BitVec.toNat_ofNat, Nat.mod_eq_of_lt h]
theorem behindN_eq {n : Nat} (h : n < 4294967296) (l : List UInt8) : behindN n l = 4294967295 - rowN (4294967295 - n) l := by
  unfold behindN behind rowN
  have e : ~~~ BitVec.ofNat 32 n = BitVec.ofNat 32 (4294967295 - n) := by
    apply BitVec.eq_of_toNat_eq
    rw [notN h, BitVec.toNat_ofNat, Nat.mod_eq_of_lt (by omega)]
  rw [e, BitVec.toNat_not]
theorem behindN_sum (a b : List UInt8) : behindN (sumN a) b = sumN (a ++ b) := by
  simp only [behindN, sumN, BitVec.ofNat_toNat, BitVec.setWidth_eq, behind_sum]
theorem behindN_zero (l : List UInt8) : behindN 0 l = sumN l := rfl

def rbitsN (l : List UInt8) (k : Nat) : Nat := (rbits l k).toNat
theorem rbitsN_lt (l : List UInt8) (k : Nat) : rbitsN l k < 4294967296 := (rbits l k).isLt
theorem rbitsN_zero (l : List UInt8) : rbitsN l 0 = 4294967295 := rfl
theorem rbitsN_all (l : List UInt8) : 4294967295 - rbitsN l (8 * l.length) = sumN l := by
  unfold sumN rbitsN
  rw [← rbits_all, BitVec.toNat_not]

/-- One bit's step on plain numbers. -/
theorem bitStep_cases (x : BitVec 32) (b : Bool) : (bitStep x b).toNat = if (x.toNat % 2 = 1) = (b = true) then x.toNat / 2 else (x.toNat / 2) ^^^ 2197175160 := by
  have e0 : x.getLsbD 0 = decide (x.toNat % 2 = 1) := by rw [← BitVec.testBit_toNat, Nat.testBit_zero]
  have e1 : (x ^^^ (if b then 1 else 0)) >>> 1 = x >>> 1 := by
    rw [BitVec.ushiftRight_xor_distrib]
    cases b <;> simp
  unfold bitStep stp
  rw [BitVec.getLsbD_xor, e0, e1]
  by_cases hx : x.toNat % 2 = 1 <;> cases b <;> simp [hx, BitVec.toNat_ushiftRight, Nat.shiftRight_eq_div_pow, BitVec.toNat_xor]

theorem sumN_xor3 (as bs cs : List UInt8) (hb : bs.length = as.length) (hc : cs.length = as.length) : sumN (xor3 as bs cs) = sumN as ^^^ sumN bs ^^^ sumN cs := by
  unfold sumN
  rw [sum_xor3 as bs cs hb hc, BitVec.toNat_xor, BitVec.toNat_xor]

theorem sumN_inj {a b : List UInt8} : sumN a = sumN b ↔ sum a = sum b :=
  ⟨fun h => BitVec.eq_of_toNat_eq h, fun h => congrArg BitVec.toNat h⟩
theorem flipsN_told (l : List UInt8) (k t : Nat) (ht : t < 4294967296) (hk : k + 32 ≤ 8 * l.length) : sumN (flips l k t 32) = sumN l ↔ t = 0 :=
  sumN_inj.trans (flips_told l k t ht hk)

end CrcM
end Go.Proofs.Ytgkddhncfaeidaa
