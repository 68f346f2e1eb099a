/- Put and Get of package varint, and the reference's Put: their contracts. -/
import Derived.Test.YtanljjpjhihgcaaVar
namespace Go.Proofs.Ytanljjpjhihgcaa
open Go.RowKit VarM
set_option linter.unusedVariables false

theorem byte_or (m : Nat) : bits BinOp.or IntKind.u8 ((m : Int) % 256) 128 = ((UInt8.ofNat (m % 128 + 128)).toNat : Int) := by
  have e : bits BinOp.or IntKind.u8 ((m % 256 : Nat) : Int) ((128 : Nat) : Int) = ((m % 256 ||| 128 : Nat) : Int) := u8_or_nat _ _ (by omega) (by omega)
  rw [show ((m : Int) % 256) = ((m % 256 : Nat) : Int) from rfl, show (128 : Int) = ((128 : Nat) : Int) from rfl, e, UInt8.toNat_ofNat']
  have key : ∀ a : Fin 256, a.val ||| 128 = (a.val % 128 + 128) % 2 ^ 8 := by decide +kernel
  have := key ⟨m % 256, by omega⟩
  simp only at this
  rw [this, show m % 256 % 128 = m % 128 by omega]

theorem rem128 (k : Nat) : (k : Int) % 128 + 128 = ((UInt8.ofNat (k % 128 + 128)).toNat : Int) := by rw [UInt8.toNat_ofNat']; omega

theorem or_add (a c i : Nat) (ha : a < 2 ^ (7 * i)) : a ||| c * 2 ^ (7 * i) = a + c * 2 ^ (7 * i) := by
  rw [Nat.or_comm, ← Nat.shiftLeft_eq, ← Nat.shiftLeft_add_eq_or_of_lt ha]
  omega

theorem andNot128 (c : UInt8) : bits BinOp.andNot IntKind.u8 (c.toNat : Int) 128 = ((c.toNat % 128 : Nat) : Int) := by
  have hc := c.toNat_lt
  have e : bits BinOp.andNot IntKind.u8 (c.toNat : Int) ((128 : Nat) : Int) = ((c.toNat &&& (255 - 128) : Nat) : Int) := u8_andNot_nat _ _ (by omega) (by omega)
  rw [show (128 : Int) = ((128 : Nat) : Int) from rfl, e]
  have : c.toNat &&& (2 ^ 7 - 1) = c.toNat % 2 ^ 7 := Nat.and_two_pow_sub_one_eq_mod _ 7
  simp only [Nat.reduceSub, Nat.reducePow] at *
  rw [this]

theorem get_lt (a n k : Nat) (ha : a < 2 ^ (7 * k)) : a + n % 128 * 2 ^ (7 * k) < 2 ^ (7 * (k + 1)) := by
  rw [pow7]
  have : n % 128 * 2 ^ (7 * k) ≤ 127 * 2 ^ (7 * k) := Nat.mul_le_mul_right _ (by omega)
  omega

theorem get_or (a n k : Nat) (hn : n < 2 ^ 8) (ha : a < 2 ^ (7 * k)) (hk : k ≤ 9) (h9 : k = 9 → n ≤ 1) :
    bits BinOp.or IntKind.u64 (a : Int) (IntKind.u64.wrap (IntKind.u64.wrap (bits BinOp.andNot IntKind.u8 (n : Int) 128) * 2 ^ (7 * k))) = ((a + n % 128 * 2 ^ (7 * k) : Nat) : Int) := by
  have hu : bits BinOp.andNot IntKind.u8 (n : Int) 128 = ((n % 128 : Nat) : Int) := by
    have := andNot128 (UInt8.ofNat n)
    rw [ofNat_toNat (by omega)] at this
    exact this
  have hlt : a + n % 128 * 2 ^ (7 * k) < 18446744073709551616 := by
    by_cases h : k = 9
    · subst h
      have := h9 rfl
      have : n % 128 ≤ 1 := by omega
      have : n % 128 * 2 ^ (7 * 9) ≤ 1 * 2 ^ (7 * 9) := Nat.mul_le_mul_right _ this
      omega
    · have h1 := get_lt a n k ha
      have h2 : 2 ^ (7 * (k + 1)) ≤ 2 ^ 63 := Nat.pow_le_pow_right (by omega) (by omega)
      omega
  rw [hu]
  have e1 : IntKind.u64.wrap ((n % 128 : Nat) : Int) = ((n % 128 : Nat) : Int) := by rw [IntKind.wrap_u64]; omega
  have e2 : ((n % 128 : Nat) : Int) * 2 ^ (7 * k) = ((n % 128 * 2 ^ (7 * k) : Nat) : Int) := by simp
  have e3 : IntKind.u64.wrap ((n % 128 * 2 ^ (7 * k) : Nat) : Int) = ((n % 128 * 2 ^ (7 * k) : Nat) : Int) := by rw [IntKind.wrap_u64]; omega
  rw [e1, e2, e3, u64_or_nat _ _ (by omega) (by omega), or_add a (n % 128) k ha]

theorem get_ret {a b c d : Int} (h : a = b) (h2 : c = d) : Ending.returned (.tuple #[.int .u64 a, .int .i64 c, .int .i64 0]) = Ending.returned (.tuple #[.int .u64 b, .int .i64 d, .int .i64 0]) := by rw [h, h2]

end Go.Proofs.Ytanljjpjhihgcaa
