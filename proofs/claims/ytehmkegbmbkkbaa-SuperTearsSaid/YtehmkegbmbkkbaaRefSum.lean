/- The reference's sum, bit by bit: its contract. -/
import Derived.Test.YtehmkegbmbkkbaaBeh
namespace Go.Proofs.Ytehmkegbmbkkbaa
open Go.RowKit CrcM

theorem bit_walk (c : UInt8) (j : Nat) : bits BinOp.and IntKind.u32 ((c.toNat : Int) % 4294967296 / 2 ^ j) 1 = ((c.toNat / 2 ^ j % 2 : Nat) : Int) := by
  have hc := c.toNat_lt
  have e : ((c.toNat : Int) % 4294967296 / 2 ^ j) = ((c.toNat / 2 ^ j : Nat) : Int) := by
    rw [Int.emod_eq_of_lt (by omega) (by omega)]
    simp
  have hl : c.toNat / 2 ^ j < 4294967296 := Nat.lt_of_le_of_lt (Nat.div_le_self _ _) (by omega)
  rw [e, and1_u32 _ hl]

theorem ref_step (xs : List UInt8) (k : Nat) (hq : k / 8 < xs.length) (b : Bool)
    (h : (bits BinOp.and IntKind.u32 (rbitsN xs k : Int) 1 != bits BinOp.and IntKind.u32 ((xs[k / 8].toNat : Int) % 4294967296 / 2 ^ (k % 8)) 1) = b) :
    rbitsN xs (k + 1) = if b then (rbitsN xs k / 2) ^^^ 2197175160 else rbitsN xs k / 2 := by
  rw [bit_walk, and1_u32 _ (rbitsN_lt xs k)] at h
  have e : bitAt xs k = decide (xs[k / 8].toNat / 2 ^ (k % 8) % 2 = 1) := by
    unfold bitAt
    rw [Nat.testBit_eq_decide_div_mod_eq]
    simp [List.getD, List.getElem?_eq_getElem hq]
  have e2 : rbitsN xs (k + 1) = (bitStep (rbits xs k) (bitAt xs k)).toNat := rfl
  rw [e2, bitStep_cases, e]
  have e3 : (rbits xs k).toNat = rbitsN xs k := rfl
  rw [e3]
  generalize rbitsN xs k = r at *
  generalize xs[k / 8].toNat / 2 ^ (k % 8) = t at *
  subst h
  have h1 : r % 2 = 0 ∨ r % 2 = 1 := by omega
  have h2 : t % 2 = 0 ∨ t % 2 = 1 := by omega
  rcases h1 with h1 | h1 <;> rcases h2 with h2 | h2 <;> simp [h1, h2]

theorem xor_ones (n : Nat) (hn : n < 4294967296) : bits BinOp.xor IntKind.u32 (n : Int) 4294967295 = ((4294967295 - n : Nat) : Int) := by
  have e : bits BinOp.xor IntKind.u32 (n : Int) ((4294967295 : Nat) : Int) = ((n ^^^ 4294967295 : Nat) : Int) := u32_xor_nat _ _ hn (by omega)
  rw [Nat.xor_comm] at e
  have e3 : bits BinOp.xor IntKind.u32 ((4294967295 : Nat) : Int) (n : Int) = ((4294967295 ^^^ n : Nat) : Int) := u32_xor_nat _ _ (by omega) hn
  have e2 := not_u32 n hn
  rw [← e2]
  exact e.trans e3.symm

theorem xor_half (r : Nat) (hr : r < 4294967296) : bits BinOp.xor IntKind.u32 ((r : Int) / 2) 2197175160 = (((r / 2) ^^^ 2197175160 : Nat) : Int) :=
  u32_xor_nat (r / 2) 2197175160 (by omega) (by omega)

set_option maxRecDepth 100000 in
theorem ref_any (A : Option Addr) (cap : Nat) (xs : List UInt8) (w : World) (hx : BytesAt w A xs) (hl : xs.length ≤ 140737488355328) :
    Calls Try.prog 59 #[.slice A xs.length cap] w fun e w' => e = .returned (.int .u32 (sumN xs)) ∧ w = w' := by
  go_enter Try.func59, Try.ntmps59
  go_wp2_with fail
  go_loop [3, 4] (fun v i => ∃ k : Nat, k ≤ 8 * xs.length ∧ i = .int .i64 k ∧ v = .int .u32 (rbitsN xs k)) (fun _ i => 8 * xs.length - (intOf i).toNat)
  case atStart => exact ⟨0, by omega, rfl, by rw [rbitsN_zero]; rfl⟩
  case round =>
    obtain ⟨k, hk, rfl, rfl⟩ := hrel
    have hr := rbitsN_lt xs k
    by_cases hlt : k < 8 * xs.length
    · obtain ⟨b, off, rfl, hc⟩ := hx (by intro h; subst h; simp at hlt)
      have hq : k / 8 < xs.length := by omega
      have hck := hc (k / 8) hq
      clear hc
      go_wp2_with fail
      · go_round
        case rel =>
          refine ⟨k + 1, by omega, by go_num, ?_⟩
          rw [ref_step xs k hq true (by assumption), xor_half _ hr]
          rfl
        case measure => simp [intOf]; omega
      · go_round
        case rel =>
          refine ⟨k + 1, by omega, by go_num, ?_⟩
          rw [ref_step xs k hq false (by assumption)]
          rfl
        case measure => simp [intOf]; omega
    · go_wp2_with fail
      obtain rfl : k = 8 * xs.length := by omega
      go_ret
      refine ⟨ret_eq (u32_eq ?_), rfl⟩
      rw [← rbitsN_all]
      exact xor_ones _ hr

theorem ref_len (A : Option Addr) (cap n : Nat) (xs : List UInt8) (w : World) (hn : xs.length = n) (hx : BytesAt w A xs) (hl : n ≤ 140737488355328) :
    Calls Try.prog 59 #[.slice A n cap] w fun e w' => e = .returned (.int .u32 (sumN xs)) ∧ Below w.heap.size w w' := by
  subst hn
  exact (ref_any A cap xs w hx hl).mono fun _ _ ⟨he, hw⟩ => ⟨he, by rw [← hw]; exact Below.refl _ _⟩

end Go.Proofs.Ytehmkegbmbkkbaa
