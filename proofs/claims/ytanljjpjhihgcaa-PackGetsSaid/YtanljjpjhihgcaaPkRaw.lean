/- The reference's Raw: a number in eight bytes. -/
import Derived.Test.YtanljjpjhihgcaaPkPut
namespace Go.Proofs.Ytanljjpjhihgcaa
open Go.RowKit BitM
set_option linter.unusedVariables false

set_option maxRecDepth 100000 in
theorem raw_any (x : Nat) (hx : x < 18446744073709551616) (w : World) :
    Calls Try.prog 24 #[.int .u64 (x : Int)] w fun e w' => ∃ A' c', e = .returned (.slice A' 8 c') ∧ OwnS w' w.heap.size (.slice A' 8 c') 5 (beN x 8) ∧ Below w.heap.size w w' := by
  go_enter Try.func24, Try.ntmps24
  go_wp2_with fail
  go_loopw [3, 4] (fun l i wr => ∃ (j cl : Nat) (Al : Option Addr), j ≤ 8 ∧ i = .int .i64 (7 - (j : Int)) ∧ l = .slice Al j cl ∧ OwnS wr w.heap.size (.slice Al j cl) 5 (beN (x / 256 ^ (8 - j)) j) ∧ Below w.heap.size w wr) (fun _ i _ => (intOf i + 1).toNat)
  case atStart => exact ⟨0, 0, none, by omega, rfl, rfl, OwnS.nil _ _ _, Below.refl _ _⟩
  case round =>
    obtain ⟨j, cl, Al, hj, rfl, rfl, hol, hb⟩ := hrel
    by_cases hlt : j < 8
    · obtain ⟨i, hi⟩ : ∃ i, i = 7 - j := ⟨_, rfl⟩
      have hii : (7 : Int) - (j : Int) = (i : Int) := by omega
      rw [hii]
      obtain ⟨s, hs⟩ : ∃ s, s = 8 * i := ⟨_, rfl⟩
      have hsi : (8 : Int) * (i : Int) = (s : Int) := by omega
      have hpw : (2 : Nat) ^ s = 256 ^ i := by rw [hs, Nat.pow_mul]
      obtain ⟨t, ht⟩ : ∃ t, t = x / 2 ^ s := ⟨_, rfl⟩
      have hsn : beN (x / 256 ^ (8 - j)) j ++ [UInt8.ofNat t] = beN (x / 256 ^ (8 - (j + 1))) (j + 1) := by
        rw [beN_snoc, Nat.div_div_eq_div_mul, ← Nat.pow_succ, ht, hpw, show 8 - (j + 1) = i by omega, show i.succ = 8 - j by omega]
      have hz : (x : Int) / 2 ^ s % 256 = ((UInt8.ofNat t).toNat : Int) := by
        have e : ((x : Int) / 2 ^ s) = ((x / 2 ^ s : Nat) : Int) := by simp
        rw [e, ← ht, UInt8.toNat_ofNat']
        omega
      have hlen : (beN (x / 256 ^ (8 - j)) j).length + 1 ≤ 140737488355328 := by rw [length_beN]; omega
      have hl2 : (beN (x / 256 ^ (8 - (j + 1))) (j + 1)).length = j + 1 := length_beN _ _
      have HSN := Lib.hid hsn
      have HZ := Lib.hid hz
      have HL2 := Lib.hid hl2
      have HI := Lib.hid hi
      have hs64 : s < 64 := by omega
      clear hii hs hpw ht hsn hz hl2 hi
      go_wp2_with (at_builtin; refine wpList_append_z rfl (.tmp 9) (.tmp 15) 22 rfl Try.underlying22 infoU8 rfl (hol.alloc _) _ _ 1 [UInt8.ofNat t] (beN (x / 256 ^ (8 - (j + 1))) (j + 1)) rfl rfl (bytesAt_one _ _ _ _ HZ.out) HSN.out hlen (by have := hb.size; simp; omega) ?_; rw [HL2.out]; intro A3 c3 w3 ho3 hg3)
      go_roundw
      case rel =>
        refine ⟨j + 1, c3, A3, by omega, ?_, rfl, ho3, (hol.alloc _).belowGrown (Nat.le_refl _) (by have := hb.size; simp; omega) (below_alloc (Nat.le_refl _) hb _) hg3⟩
        have := HI.out
        have e : (7 : Int) - ((j + 1 : Nat) : Int) = (i : Int) - 1 := by omega
        rw [e]
      case measure => simp [intOf]
    · obtain rfl : j = 8 := by omega
      go_wp2_with fail
      go_ret
      rw [show 8 - 8 = 0 from rfl, Nat.pow_zero, Nat.div_one] at hol
      exact ⟨Al, cl, rfl, hol, hb⟩
end Go.Proofs.Ytanljjpjhihgcaa
