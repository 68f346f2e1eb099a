/- DiskWaits: its walk. -/
import Derived.Test.YtmmkmpjhmbocfaaPartF
import Derived.Test.YtmmkmpjhmbocfaaDiskLoads
namespace Go.Proofs.Ytmmkmpjhmbocfaa
open Go.ChangeShapes Go.WideShapes Go.ChangeAt Go.RowKit
set_option linter.unusedVariables false

theorem putAt_mid {nw : List UInt8} {i : Nat} {bs : List UInt8} (hi : 64 * i + 64 ≤ nw.length) (hb : bs.length = 64) : ((putAt nw i bs).drop (64 * i)).take 64 = bs := by
  unfold putAt
  rw [List.append_assoc, List.drop_append_of_le_length (by rw [List.length_take]; omega)]
  rw [List.drop_eq_nil_of_le (by rw [List.length_take]; omega), List.nil_append, List.take_append_of_le_length (by omega)]
  exact List.take_of_length_le (by omega)
theorem crashN_nil (S : List UInt8) (ws : List (Nat × List UInt8)) : ∀ k, crashN S ws [] k = S
  | 0 => rfl
  | k + 1 => by
    show (match ws[k]? with | some p => crash1 (crashN S ws [] k) p ([] : List (Bool × Nat))[k]? | none => crashN S ws [] k) = S
    rw [crashN_nil S ws k]
    cases ws[k]? <;> rfl

section
variable {w : World} {B N g gs gn L cs cn : Nat} {rw : Value} {st nw : List UInt8} {ws : List (Nat × List UInt8)} {on : Bool} {left : Int}
theorem writeF (h : Dk w B N g gs gn rw L cs cn st nw ws true (-1)) (z : Int) (i : Nat) (hz : z = (i : Int)) (hi : 64 * i + 64 ≤ L) (q B' cap : Nat) (bs : List UInt8) (ho : OwnB w B' q cap 5 bs) (hl : bs.length = 64) (hq : N ≤ q) (hws : ws.length ≤ 1000) :
    Calls Try.prog 14 #[.pointer (some ⟨g, 0, none⟩), .int .i64 z, .slice (some ⟨q, 0, none⟩) 64 64] w fun e w' => e = .returned (.int .i64 0) ∧
      (∃ rw', Dk w' B w'.heap.size g gs gn rw' L cs cn st (putAt nw i bs) (ws ++ [(i, bs)]) true (-1)) ∧ Below B w w' := by
  subst hz
  exact (write_ok h (by decide) (by decide) (by decide) i hi (some ⟨q, 0, none⟩) 64 bs ho.bytes hl (fun a ha => by injection ha with ha; subst ha; exact .inr hq) (-1) (by decide) hws).mono fun e w' ⟨h1, h2, h3, _⟩ => ⟨h1, h2, h3⟩
theorem fullF (z : Int) (b : Nat) (hz : z = (b : Int)) (hb : b < 256) (w : World) :
    Calls Try.prog 54 #[.int .u8 z] w fun e w' => ∃ q, e = .returned (.slice (some ⟨q, 0, none⟩) 64 64) ∧ OwnB w' w.heap.size q 64 5 (List.replicate 64 (UInt8.ofNat b)) ∧ Below w.heap.size w w' := by
  subst hz
  exact full_any b hb w
theorem flushF (h : Dk w B N g gs gn rw L cs cn st nw ws true (-1)) (hws : ws.length ≤ 1000) :
    Calls Try.prog 15 #[.pointer (some ⟨g, 0, none⟩)] w fun e w' => e = .returned (.int .i64 0) ∧
      Dk w' B w'.heap.size g gs gn (.slice none 0 0) L cs cn (flushN st ws ws.length) nw [] true (-1) ∧ Below B w w' :=
  (flush_ok h (by decide) (by decide) (by decide) (-1) (by decide) hws).mono fun e w' ⟨h1, h2, h3⟩ => ⟨h1, h2, h3.below (by have := h.NN; have := h.gB; have := h.gN; omega)⟩
theorem crashF (h : Dk w B N g gs gn rw L cs cn st nw ws on left) (hws : ws.length ≤ 1000) :
    Calls Try.prog 11 #[.pointer (some ⟨g, 0, none⟩), .slice none 0 0] w fun e w' => e = .returned (.tuple #[]) ∧
      Dk w' B w'.heap.size g gs gn (.slice none 0 0) L cs cn st st [] true (-1) ∧ Below B w w' := by
  have := crash_any h hws none 0 0 [] rfl (by omega) (by omega) (by unfold maxLen; omega) (fun j p hj => by simp at hj) (fun a ha => by cases ha)
  rw [crashN_nil] at this
  exact this.mono fun e w' ⟨h1, h2, h3⟩ => ⟨h1, h2, h3.below (by have := h.NN; have := h.gB; have := h.gN; omega)⟩
end

end Go.Proofs.Ytmmkmpjhmbocfaa
