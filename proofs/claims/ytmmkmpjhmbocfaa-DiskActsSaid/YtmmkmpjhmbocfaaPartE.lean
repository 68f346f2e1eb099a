/- Several texts in one: Numbers of seven bits a byte, as lists of bytes: plain mathematics. The calls of package varint and of its reference: their contracts. -/
import Derived.WalkKit
import Derived.Test.YtmmkmpjhmbocfaaChecked
import Derived.Test.YtmmkmpjhmbocfaaOwnS
import Derived.Lib.MinMax
import Derived.Lib.SlBytesConst
import Derived.Lib.BufferMore
import Derived.KernelRfl
import Derived.Handy
import Derived.WalkSpells
import Derived.WalkLawsBesides
namespace VarM

/-- A number's bytes. -/
def vput (n : Nat) : List UInt8 := if n < 128 then [UInt8.ofNat n] else UInt8.ofNat (n % 128 + 128) :: vput (n / 128)
termination_by n
decreasing_by omega

theorem vput_low {n : Nat} (h : n < 128) : vput n = [UInt8.ofNat n] := by rw [vput, if_pos h]
theorem vput_high {n : Nat} (h : ¬ n < 128) : vput n = UInt8.ofNat (n % 128 + 128) :: vput (n / 128) := by rw [vput, if_neg h]

theorem vput_len_pos (n : Nat) : 1 ≤ (vput n).length := by
  by_cases h : n < 128
  · rw [vput_low h]; simp
  · rw [vput_high h]; simp

theorem vput_len_le (k : Nat) : ∀ n, n < 128 ^ (k + 1) → (vput n).length ≤ k + 1 := by
  induction k with
  | zero => intro n h; rw [vput_low (by omega)]; simp
  | succ k ih =>
    intro n h
    by_cases h1 : n < 128
    · rw [vput_low h1]; simp
    · rw [vput_high h1, List.length_cons]
      have := ih (n / 128) (by rw [Nat.pow_succ] at h; omega)
      omega
theorem vput_len10 {n : Nat} (h : n < 18446744073709551616) : (vput n).length ≤ 10 := vput_len_le 9 n (by omega)

/-- What is told of bytes, from place i on, with n so far: the number, its length, the error. -/
def vget : List UInt8 → Nat → Nat → Nat × Nat × Nat
  | [], _, _ => (0, 0, 4)
  | c :: cs, i, n =>
    if i = 9 ∧ 1 < c.toNat then (0, 0, 3)
    else if 0 < i ∧ c.toNat = 0 then (0, 0, 3)
    else if c.toNat < 128 then (n + c.toNat % 128 * 2 ^ (7 * i), i + 1, 0)
    else vget cs (i + 1) (n + c.toNat % 128 * 2 ^ (7 * i))

theorem ofNat_toNat {n : Nat} (h : n < 256) : (UInt8.ofNat n).toNat = n := by rw [UInt8.toNat_ofNat']; omega

theorem pow7 (i : Nat) : 2 ^ (7 * (i + 1)) = 2 ^ (7 * i) * 128 := by rw [show 7 * (i + 1) = 7 * i + 7 by omega, Nat.pow_add]

theorem vget_put (rest : List UInt8) : ∀ (m i a : Nat), i ≤ 9 → m * 2 ^ (7 * i) < 18446744073709551616 → (0 < i → m ≠ 0) → vget (vput m ++ rest) i a = (a + m * 2 ^ (7 * i), i + (vput m).length, 0) := by
  intro m
  induction m using Nat.strongRecOn with
  | _ m ih =>
    intro i a hi hm h0
    have h9 : i = 9 → m ≤ 1 := by intro h; subst h; omega
    by_cases h : m < 128
    · rw [vput_low h]
      simp only [List.cons_append, List.nil_append, vget, List.length_cons, List.length_nil]
      rw [ofNat_toNat (by omega), if_neg (by omega), if_neg (by omega), if_pos h, Nat.mod_eq_of_lt h]
    · rw [vput_high h]
      have hi9 : i ≠ 9 := by intro e; have := h9 e; omega
      simp only [List.cons_append, vget, List.length_cons]
      rw [ofNat_toNat (by omega), if_neg (by omega), if_neg (by omega), if_neg (by omega)]
      have e1 : (m % 128 + 128) % 128 = m % 128 := by omega
      have e2 : m % 128 * 2 ^ (7 * i) + m / 128 * 2 ^ (7 * (i + 1)) = m * 2 ^ (7 * i) := by
        rw [pow7, Nat.mul_comm (2 ^ (7 * i)) 128, ← Nat.mul_assoc, ← Nat.add_mul]
        congr 1
        omega
      rw [e1, ih (m / 128) (by omega) (i + 1) _ (by omega) (by omega) (by omega)]
      refine Prod.ext ?_ (Prod.ext ?_ rfl)
      · simp only; omega
      · simp only; omega

/-- A number's bytes without the last one are too few. -/
theorem vget_cut : ∀ (m i a : Nat), i ≤ 9 → m * 2 ^ (7 * i) < 18446744073709551616 → vget ((vput m).take ((vput m).length - 1)) i a = (0, 0, 4) := by
  intro m
  induction m using Nat.strongRecOn with
  | _ m ih =>
    intro i a hi hm
    by_cases h : m < 128
    · rw [vput_low h]
      rfl
    · have hi9 : i ≠ 9 := by intro e; subst e; omega
      have hp := vput_len_pos (m / 128)
      rw [vput_high h, List.length_cons, show (vput (m / 128)).length + 1 - 1 = ((vput (m / 128)).length - 1) + 1 by omega, List.take_succ_cons]
      simp only [vget]
      have e2 : m % 128 * 2 ^ (7 * i) + m / 128 * 2 ^ (7 * (i + 1)) = m * 2 ^ (7 * i) := by
        rw [pow7, Nat.mul_comm (2 ^ (7 * i)) 128, ← Nat.mul_assoc, ← Nat.add_mul]
        congr 1
        omega
      rw [ofNat_toNat (by omega), if_neg (by omega), if_neg (by omega), if_neg (by omega), ih (m / 128) (by omega) (i + 1) _ (by omega) (by omega)]

theorem vget_bound : ∀ (xs : List UInt8) (i a : Nat), i ≤ 9 → a < 2 ^ (7 * i) → (vget xs i a).1 < 18446744073709551616 ∧ (vget xs i a).2.1 ≤ i + xs.length ∧ (vget xs i a).2.2 ≤ 4 := by
  intro xs
  induction xs with
  | nil => intro i a _ _; simp [vget]
  | cons c cs ih =>
    intro i a hi ha
    have hc := c.toNat_lt
    simp only [vget]
    split
    · simp
    · rename_i h1
      split
      · simp
      · have hlt : a + c.toNat % 128 * 2 ^ (7 * i) < 2 ^ (7 * (i + 1)) := by
          rw [pow7]
          have : c.toNat % 128 * 2 ^ (7 * i) ≤ 127 * 2 ^ (7 * i) := Nat.mul_le_mul_right _ (by omega)
          omega
        split
        · refine ⟨?_, by simp, by simp⟩
          by_cases h9 : i = 9
          · subst h9
            have : c.toNat ≤ 1 := by omega
            have : c.toNat % 128 ≤ 1 := by omega
            simp only
            omega
          · have : 2 ^ (7 * (i + 1)) ≤ 2 ^ 63 := Nat.pow_le_pow_right (by omega) (by omega)
            simp only
            omega
        · have h9 : i ≠ 9 := by intro h; omega
          have := ih (i + 1) _ (by omega) hlt
          simp only [List.length_cons]
          exact ⟨this.1, by omega, this.2.2⟩

/-- A number with a sign as one without. -/
def zig (n : Int) : Nat := if 0 ≤ n then 2 * n.toNat else 2 * (-(n + 1)).toNat + 1
def zag (m : Nat) : Int := if m % 2 = 0 then ((m / 2 : Nat) : Int) else -((m / 2 : Nat) : Int) - 1
theorem zag_zig (n : Int) : zag (zig n) = n := by
  unfold zag zig
  split <;> split <;> omega
theorem zig_zag (m : Nat) : zig (zag m) = m := by
  unfold zag zig
  split <;> split <;> omega
theorem zig_lt {n : Int} (h1 : -9223372036854775808 ≤ n) (h2 : n ≤ 9223372036854775807) : zig n < 18446744073709551616 := by
  unfold zig
  split <;> omega
theorem zag_in {m : Nat} (h : m < 18446744073709551616) : -9223372036854775808 ≤ zag m ∧ zag m ≤ 9223372036854775807 := by
  unfold zag
  split <;> omega
end VarM

namespace Go.Proofs.Ytmmkmpjhmbocfaa
open Go.RowKit VarM
set_option linter.unusedVariables false

theorem infoU8 : (Try.prog.info? 5).map (fun i => (i.zero, i.size, i.bytes)) = some (some (.int .u8 0), 1, 1) := by kernel_rfl
theorem ret_eq {u v : Value} (h : u = v) : Ending.returned u = Ending.returned v := by rw [h]
theorem u64_eq {a b : Int} (h : a = b) : Value.int .u64 a = Value.int .u64 b := by rw [h]
theorem i64_eq {a b : Int} (h : a = b) : Value.int .i64 a = Value.int .i64 b := by rw [h]

theorem xor_ones64 (m : Nat) (h : m < 18446744073709551616) : m ^^^ 18446744073709551615 = 18446744073709551615 - m := by
  have h1 : (BitVec.ofNat 64 m ^^^ BitVec.allOnes 64).toNat = (~~~ BitVec.ofNat 64 m).toNat := by rw [BitVec.xor_comm, BitVec.allOnes_xor]
  rw [BitVec.toNat_xor, BitVec.toNat_not, BitVec.toNat_ofNat, Nat.mod_eq_of_lt h] at h1
  exact h1

theorem zig_walk (n : Int) (h1 : -9223372036854775808 ≤ n) (h2 : n ≤ 9223372036854775807) : bits BinOp.xor IntKind.u64 (IntKind.u64.wrap (IntKind.u64.wrap n * 2)) (IntKind.u64.wrap (n / 9223372036854775808)) = (zig n : Int) := by
  simp only [IntKind.wrap_u64]
  by_cases h : 0 ≤ n
  · have e1 : (n % 18446744073709551616 * 2) % 18446744073709551616 = ((2 * n.toNat : Nat) : Int) := by omega
    have e2 : (n / 9223372036854775808) % 18446744073709551616 = ((0 : Nat) : Int) := by omega
    rw [e1, e2, u64_xor_nat _ _ (by omega) (by omega), Nat.xor_zero]
    unfold zig
    rw [if_pos h]
  · have e1 : (n % 18446744073709551616 * 2) % 18446744073709551616 = (((n + 18446744073709551616).toNat * 2 % 18446744073709551616 : Nat) : Int) := by omega
    have e2 : (n / 9223372036854775808) % 18446744073709551616 = ((18446744073709551615 : Nat) : Int) := by omega
    rw [e1, e2, u64_xor_nat _ _ (by omega) (by omega), xor_ones64 _ (by omega)]
    unfold zig
    rw [if_neg h]
    omega

theorem zag_walk (m : Nat) (h : m < 18446744073709551616) : bits BinOp.xor IntKind.i64 ((m : Int) / 2) (wrap64 (-wrap64 (bits BinOp.and IntKind.u64 (m : Int) 1))) = zag m := by
  have e : bits BinOp.and IntKind.u64 (m : Int) ((1 : Nat) : Int) = ((m &&& 1 : Nat) : Int) := u64_and_nat _ _ h (by omega)
  rw [Nat.and_one_is_mod] at e
  rw [show bits BinOp.and IntKind.u64 (m : Int) 1 = ((m % 2 : Nat) : Int) from e]
  have hx : (BitVec.ofInt 64 ((m : Int) / 2)) = BitVec.ofNat 64 (m / 2) := by
    rw [show ((m : Int) / 2) = ((m / 2 : Nat) : Int) from rfl, BitVec.ofInt_natCast]
  show IntKind.i64.wrap ((BitVec.ofInt 64 ((m : Int) / 2) ^^^ BitVec.ofInt 64 _).toNat : Int) = _
  rw [hx]
  rcases (by omega : m % 2 = 0 ∨ m % 2 = 1) with h0 | h0
  · rw [h0]
    have : wrap64 (-wrap64 ((0 : Nat) : Int)) = 0 := by rw [IntWalk.wrap64_in ((0 : Nat) : Int) ⟨by omega, by omega⟩]; exact IntWalk.wrap64_in _ ⟨by omega, by omega⟩
    rw [this]
    have : (BitVec.ofInt 64 0) = 0#64 := rfl
    rw [this, BitVec.xor_zero, BitVec.toNat_ofNat, Nat.mod_eq_of_lt (by omega)]
    unfold zag
    rw [if_pos h0]
    simp only [IntKind.wrap, IntKind.bits, IntKind.signed]
    simp
    omega
  · rw [h0]
    have : wrap64 (-wrap64 ((1 : Nat) : Int)) = -1 := by rw [IntWalk.wrap64_in ((1 : Nat) : Int) ⟨by omega, by omega⟩]; exact IntWalk.wrap64_in _ ⟨by omega, by omega⟩
    rw [this]
    have e3 : (BitVec.ofInt 64 (-1)) = BitVec.allOnes 64 := by decide
    rw [e3, BitVec.xor_comm, BitVec.allOnes_xor, BitVec.toNat_not, BitVec.toNat_ofNat, Nat.mod_eq_of_lt (by omega)]
    unfold zag
    rw [if_neg (by omega)]
    have e4 : ((2 ^ 64 - 1 - m / 2 : Nat) : Int) = -((m / 2 : Nat) : Int) - 1 + 18446744073709551616 := by omega
    rw [e4]
    simp only [IntKind.wrap, IntKind.bits, IntKind.signed]
    simp
    omega

/-! ### bytes.Clone -/

theorem clone_nil (w : World) : Calls Try.prog 53 #[.slice none 0 0] w fun e w' => e = .returned (.slice none 0 0) ∧ w = w' := by
  have hnil : ∀ W, (binOp .eql 27 (.slice none 0 0) (.slice none 0 0)).run Try.prog W = .ok (.bool true) W := fun W => Lib.run_eql_slice_nil_nil W _ _ Try.underlying27
  go_enter Try.func53, Try.ntmps53
  go_wp2
  go_ret
  exact ⟨rfl, rfl⟩

theorem clone_some (A : Addr) (n c : Nat) (xs : List UInt8) (w : World) (hn : xs.length = n) (hx : BytesAt w (some A) xs) (hl : n ≤ 140737488355328) :
    Calls Try.prog 53 #[.slice (some A) n c] w fun e w' => ∃ A' c', e = .returned (.slice A' n c') ∧ OwnS w' w.heap.size (.slice A' n c') 5 xs ∧ Below w.heap.size w w' := by
  have hb : Below w.heap.size w (w.alloc (.cells #[] 5)) := (Below.refl _ _).alloc (Nat.le_refl _) _
  have hown := OwnS.new w 5 [] w.heap.size (Nat.le_refl _) (by simp)
  have hnil : ∀ W, (binOp .eql 27 (.slice (some A) n c) (.slice none 0 0)).run Try.prog W = .ok (.bool false) W := fun W => Lib.run_eql_slice_some_nil W _ _ _ Try.underlying27
  go_enter Try.func53, Try.ntmps53
  go_wp2_with (at_builtin; refine wpList_append_s rfl (.tmp 5) (.tmp 6) 27 rfl Try.underlying27 infoU8 rfl hown _ _ _ xs rfl hn (hx.below hb) (by simpa using hl) (by simp) ?_; intro A' c' w1 ho1 hg1)
  go_ret
  rw [List.nil_append, hn] at *
  exact ⟨A', c', rfl, ho1, hown.belowGrown (Nat.le_refl _) (by simp) hb hg1⟩

theorem clone_any (A : Option Addr) (n c : Nat) (xs : List UInt8) (w : World) (hn : xs.length = n) (hx : BytesAt w A xs) (hl : n ≤ 140737488355328) (h0 : A = none → n = 0 ∧ c = 0) :
    Calls Try.prog 53 #[.slice A n c] w fun e w' => ∃ A' c', e = .returned (.slice A' n c') ∧ OwnS w' w.heap.size (.slice A' n c') 5 xs ∧ Below w.heap.size w w' := by
  cases A with
  | none =>
    obtain ⟨rfl, rfl⟩ := h0 rfl
    obtain rfl := List.eq_nil_of_length_eq_zero hn
    refine (clone_nil w).mono ?_
    rintro e w' ⟨rfl, rfl⟩
    exact ⟨none, 0, rfl, OwnS.nil _ _ _, Below.refl _ _⟩
  | some a => exact clone_some a n c xs w hn hx hl
end Go.Proofs.Ytmmkmpjhmbocfaa
