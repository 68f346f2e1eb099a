/- Two pages that are good differ in no burst of up to 32 bits. No program is named here. -/
import Derived.Test.YtmmkmpjhmbocfaaPageRound
namespace Go.Proofs.Ytmmkmpjhmbocfaa
open CrcM PageM

theorem bitsOf_add (x : BitVec 32) (c m : Nat) : ∀ j, bitsOf x c (m + j) = bitsOf (bitsOf x c m) (c / 2 ^ m) j
  | 0 => rfl
  | j + 1 => by
    have h := bitsOf_add x c m j
    show bitStep (bitsOf x c (m + j)) (c.testBit (m + j)) = bitStep (bitsOf (bitsOf x c m) (c / 2 ^ m) j) ((c / 2 ^ m).testBit j)
    rw [h, Nat.testBit_div_two_pow, Nat.add_comm j m]

theorem bitsOf_congr (x : BitVec 32) (c d : Nat) : ∀ j, (∀ i, i < j → c.testBit i = d.testBit i) → bitsOf x c j = bitsOf x d j
  | 0, _ => rfl
  | j + 1, h => by
    show bitStep (bitsOf x c j) (c.testBit j) = bitStep (bitsOf x d j) (d.testBit j)
    rw [bitsOf_congr x c d j (fun i hi => h i (by omega)), h j (by omega)]

theorem run_le (x : BitVec 32) (s : Nat) : ∀ q, run x (le s q) = bitsOf x s (8 * q)
  | 0 => rfl
  | q + 1 => by
    show run x (le s q ++ [UInt8.ofNat (s / 2 ^ (8 * q))]) = _
    rw [run_append, run_le x s q]
    show byteStep (bitsOf x s (8 * q)) (UInt8.ofNat (s / 2 ^ (8 * q))) = _
    rw [← bitsOf_byte, Nat.mul_add, Nat.mul_one, bitsOf_add]
    refine bitsOf_congr _ _ _ 8 (fun i hi => ?_)
    rw [UInt8.toNat_ofNat', show (2 : Nat) ^ 8 = 2 ^ 8 from rfl, Nat.testBit_mod_two_pow]
    simp [hi]

theorem sum_page (l : List UInt8) : sum (l ++ le (sumN l) 4) = ~~~ stps 32 4294967295#32 := by
  have hX : sumN l = (~~~ run 4294967295#32 l).toNat := rfl
  show ~~~ run 4294967295#32 (l ++ le (sumN l) 4) = _
  rw [run_append, run_le, bitsOf_eq _ _ 32 (Nat.le_refl _), hX]
  generalize run 4294967295#32 l = X
  have e : BitVec.ofNat 32 ((~~~ X).toNat % 2 ^ 32) = ~~~ X := by
    rw [Nat.mod_eq_of_lt (~~~ X).isLt, BitVec.ofNat_toNat, BitVec.setWidth_eq]
  rw [e]
  have hones : (4294967295#32 : BitVec 32) = BitVec.allOnes 32 := by decide
  rw [hones]
  congr 2
  ext i hi
  rw [BitVec.getElem_xor, BitVec.getElem_not, BitVec.getElem_allOnes]
  cases X[i] <;> rfl

theorem good_sum {xs : List UInt8} (h : good xs) : sum xs = ~~~ stps 32 4294967295#32 := by
  rw [← h.2.2.2]
  exact sum_page _

theorem flips_zero (l : List UInt8) (k : Nat) : ∀ i, flips l k 0 i = l
  | 0 => rfl
  | i + 1 => by
    show (if (0 : Nat).testBit i then _ else flips l k 0 i) = l
    rw [Nat.zero_testBit, flips_zero l k i]
    rfl

theorem good_flips {xs : List UInt8} (h : good xs) (k t : Nat) (ht : t < 4294967296) (hk : k + 32 ≤ 8 * 256) : good (flips xs k t 32) ↔ t = 0 := by
  have hk' : k + 32 ≤ 8 * xs.length := by rw [h.1]; exact hk
  constructor
  · intro h2
    exact (flips_told xs k t ht hk').1 ((good_sum h2).trans (good_sum h).symm)
  · intro h0
    subst h0
    rw [flips_zero]
    exact h
end Go.Proofs.Ytmmkmpjhmbocfaa
