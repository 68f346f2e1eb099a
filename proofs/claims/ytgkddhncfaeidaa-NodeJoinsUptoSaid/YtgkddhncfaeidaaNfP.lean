/- The reference's Put of whatever node: big. -/
import Derived.Test.YtgkddhncfaeidaaNfR
import Derived.Test.YtgkddhncfaeidaaNdX
import Derived.Test.YtgkddhncfaeidaaPiBox
namespace Go.Proofs.Ytgkddhncfaeidaa
open Go.ChangeShapes Go.WideShapes Go.ChangeAt Go.RowKit CrcM PageM
set_option linter.unusedVariables false

set_option maxRecDepth 100000 in
theorem big_any (z : Int) (s : Nat) (hz : z = (s : Int)) (hs : s ≤ 8) (n : Nat) (hn : n < 18446744073709551616) (w : World) :
    Calls Try.prog 37 #[.int .u64 n, .int .i64 z] w fun e w' => ∃ A' c', e = .returned (.slice A' s c') ∧ OwnS w' w.heap.size (.slice A' s c') 5 (be n s) ∧ Below w.heap.size w w' := by
  subst hz
  go_enter Try.func37, Try.ntmps37
  go_wp2_with fail
  go_loopw [5, 6] (fun v i wr => ∃ (t : Nat) (done : List UInt8) (A1 : Option Addr) (c1 : Nat), t ≤ s ∧ Hid (done ++ be n t = be n s) ∧ i = .int .i64 ((t : Int) - 1) ∧ v = .slice A1 done.length c1 ∧ Hid (OwnS wr w.heap.size (.slice A1 done.length c1) 5 done) ∧ Hid (Below w.heap.size w wr)) (fun _ i _ => (intOf i + 1).toNat)
  case atStart => exact ⟨s, [], none, 0, Nat.le_refl _, Lib.hid rfl, rfl, rfl, Lib.hid (OwnS.nil _ _ _), Lib.hid (Below.refl _ _)⟩
  case round =>
    obtain ⟨t, done, A1, c1, ht, HD, rfl, rfl, HO, HB⟩ := hrel
    cases t with
    | succ t =>
      have e1 : ((t + 1 : Nat) : Int) - 1 = (t : Int) := by omega
      rw [e1]
      have hdl : done.length + 1 ≤ 140737488355328 := by
        have h1 := congrArg List.length HD.out
        simp [length_be] at h1 ⊢
        omega
      have hy := Lib.hid (nd_byte n t)
      clear e1
      have hsz := HB.out.size
      go_wp2_with (at_builtin; refine wpList_append_s2' rfl (.tmp 13) (.tmp 19) 27 rfl Try.underlying27 infoB rfl (HO.out.alloc _) _ _ 1 [UInt8.ofNat (n / 256 ^ t)] rfl rfl (bytesAt_one _ _ _ _ hy.out) hdl (by simp; omega) ?_; intro A3 c3 w3 ho3 hg3 how3)
      go_roundw
      case rel =>
        refine ⟨t, done ++ [UInt8.ofNat (n / 256 ^ t)], A3, c3, by omega, Lib.hid ?_, rfl, by simp, Lib.hid ho3, Lib.hid ?_⟩
        · rw [← HD.out, be_cons, List.append_assoc]; rfl
        · exact (HO.out.alloc _).belowGrown (Nat.le_refl _) (by simp; omega) (HB.out.alloc HB.out.size _) hg3
      case measure => simp [intOf]
    | zero =>
      have hd2 : done = be n s := by rw [← HD.out]; simp [be]
      have e3 : (be n s).length = s := length_be _ _
      have HF : Hid (OwnS wr w.heap.size (.slice A1 s c1) 5 (be n s)) := Lib.hid (by have := HO.out; rw [hd2, e3] at this; exact this)
      have hl : done.length = s := by rw [hd2, e3]
      rw [hl]
      clear hd2 e3 hl
      go_wp2_with fail
      go_ret
      exact ⟨A1, c1, rfl, HF.out, HB.out⟩
end Go.Proofs.Ytgkddhncfaeidaa
