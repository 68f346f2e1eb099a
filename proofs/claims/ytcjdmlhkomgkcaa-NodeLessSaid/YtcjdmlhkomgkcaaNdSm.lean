/- NodePages and NodeLess: their walks. -/
import Derived.Test.YtcjdmlhkomgkcaaNdPuts
import Derived.Test.YtcjdmlhkomgkcaaRowKit
import Derived.Deep.DeepCutAuto
namespace Go.Proofs.Ytcjdmlhkomgkcaa
open Go.ChangeShapes Go.WideShapes Go.ChangeAt Go.RowKit CrcM PageM
set_option linter.unusedVariables false

theorem nd_ret {a b : Value} (h : a = b) : Ending.returned a = Ending.returned b := by rw [h]

theorem pages_nd (v : Nat) (hv : v < 65536) (w : World) :
    Calls Try.prog 57 #[.agg #[.int .i64 0, .int .i64 0, .int .i64 0, .int .i64 0, .int .i64 v, .int .i64 0, .int .i64 0, .int .u32 0]] w fun e w' => e = .returned (.int .i64 (((v + 255) / 256 : Nat) : Int)) ∧ Below w.heap.size w w' := by
  go_enter Try.func57, Try.ntmps57
  go_wp2_with fail
  go_ret
  refine ⟨?_, (Below.refl _ _).alloc (Nat.le_refl _) _⟩
  refine nd_ret (congrArg (Value.int .i64) (?_ : ((v : Int) + 256 - 1) / 256 = _))
  omega

theorem less_nd (s t s' t' : Int) (w : World) :
    Calls Try.prog 58 #[.agg #[.int .i64 s, .int .i64 t], .agg #[.int .i64 s', .int .i64 t']] w fun e w' => e = .returned (.bool (decide (s < s' ∨ s = s' ∧ t < t'))) ∧ Below w.heap.size w w' := by
  by_cases h : s = s'
  · have hb : (s != s') = false := by simp [h]
    go_enter Try.func58, Try.ntmps58
    go_wp2_with fail
    go_ret
    refine ⟨nd_ret (congrArg Value.bool (?_ : decide (t < t') = _)), ((Below.refl _ _).alloc (Nat.le_refl _) _).alloc (by simp) _⟩
    simp [h]
  · have hb : (s != s') = true := by simp [h]
    go_enter Try.func58, Try.ntmps58
    go_wp2_with fail
    go_ret
    refine ⟨nd_ret (congrArg Value.bool (?_ : decide (s < s') = _)), ((Below.refl _ _).alloc (Nat.le_refl _) _).alloc (by simp) _⟩
    simp [h]

set_option maxRecDepth 100000 in
theorem nodePages_walk (n : Int) (hn : (Lit.int .u16 n).wf = true) {w : World} :
    Calls Try.prog 11 #[.int .u16 n] w fun e w' => e = .returned (.bool true) ∧ Below w.heap.size w w' := by
  obtain ⟨m1, m2⟩ : 0 ≤ n ∧ n < 65536 := by have := bounds_u16 hn; omega
  obtain ⟨v, rfl⟩ := Int.eq_ofNat_of_zero_le m1
  clear hn m1
  go_enter Try.func11, Try.ntmps11
  go_wp2_with fail
  go_loop [3] (fun i => ∃ k : Nat, k ≤ 256 ∧ i = .int .i64 k ∧ 256 * k < v + 256) (fun i => v - (intOf i).toNat)
  case atStart => exact ⟨0, by omega, rfl, by omega⟩
  case round =>
    obtain ⟨k, hk, rfl, hkv⟩ := hrel
    have HKV := Lib.hid hkv
    clear hkv
    have hw : IntKind.i64.wrap (v : Int) = (v : Int) := by rw [IntKind.wrap_i64]; omega
    by_cases hlt : 256 * k < v
    · have hd : decide (256 * (k : Int) < (v : Int)) = true := by simp; omega
      have HL := Lib.hid hlt
      clear hlt
      go_wp2_with fail
      go_round
      case rel => exact ⟨k + 1, by have := HL.out; omega, by go_num, by have := HL.out; omega⟩
      case measure => simp [intOf]; have := HL.out; omega
    · have hd : decide (256 * (k : Int) < (v : Int)) = false := by simp; omega
      have he : (v + 255) / 256 = k := by have := HKV.out; omega
      have HE := Lib.hid he
      clear he hlt
      go_wp2_with (first
        | (go_at_call 48; refine (ndputs_any _).mono ?_; rintro e w1 ⟨rfl, hb1⟩)
        | (go_at_call 57; refine (pages_nd v (by omega) _).mono ?_; rintro e w2 ⟨rfl, hb2⟩; rw [HE.out]))
      go_ret
      exact ⟨rfl, hb1.trans (hb2.mono hb1.size)⟩

end Go.Proofs.Ytcjdmlhkomgkcaa
