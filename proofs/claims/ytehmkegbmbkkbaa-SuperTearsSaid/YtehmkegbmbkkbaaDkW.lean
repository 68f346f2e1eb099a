/- Write of a disk. -/
import Derived.Test.YtehmkegbmbkkbaaDkR
namespace Go.Proofs.Ytehmkegbmbkkbaa
open Go.RowKit
set_option linter.unusedVariables false
section
variable {w w' : World} {B N g gs gn L cs cn : Nat} {rw : Value} {st nw : List UInt8} {ws : List (Nat × List UInt8)} {on : Bool} {left : Int}

theorem Dk.with (h : Dk w B N g gs gn rw L cs cn st nw ws on left) (on' : Bool) (left' : Int) (hs : w.heap.size = w'.heap.size) (hk : ∀ k, k ≠ g → w'.heap[k]? = w.heap[k]?)
    (hg : w'.heap[g]? = some (.cells #[.slice (some ⟨gs, 0, none⟩) L cs, .slice (some ⟨gn, 0, none⟩) L cn, rw, .bool on', .int .i64 left'] 103 (0, 0))) :
    Dk w' B N g gs gn rw L cs cn st nw ws on' left' := by
  have hgs : gs ≠ g := by
    intro e
    obtain ⟨_, _, _, cur, hh, _⟩ := h.stay.parts
    rw [e, h.head] at hh
    simp at hh
  have hgn : gn ≠ g := by
    intro e
    obtain ⟨_, _, _, cur, hh, _⟩ := h.now.parts
    rw [e, h.head] at hh
    simp at hh
  exact { h with
    head := hg
    stay := h.stay.keep (hk gs hgs)
    now := h.now.keep (hk gn hgn)
    wait := by
      rcases h.wait.2 with ⟨h0, h1⟩ | ⟨g', cap', cur, hv, hb, hh, hr⟩
      · exact ⟨h.wait.1, .inl ⟨h0, h1⟩⟩
      · refine ⟨h.wait.1, .inr ⟨g', cap', cur, hv, hb, (hk g' ?_).trans hh, hr⟩⟩
        intro e
        rw [e, h.head] at hh
        simp at hh
    NN := by rw [← hs]; exact h.NN }

/-- Behind a step that may be done. -/
def stepped (left : Int) : Int := if 0 < left then left - 1 else left

theorem step_no (h : Dk w B N g gs gn rw L cs cn st nw ws true 0) :
    Calls Try.prog 55 #[.pointer (some ⟨g, 0, none⟩)] w fun e w' => e = .returned (.bool false) ∧ Dk w' B N g gs gn rw L cs cn st nw ws false 0 ∧ w.grownBy w' (some g) ∧ w'.heap.size = w.heap.size := by
  have c4 := blk_cell h.head 4 _ rfl
  have f3 : w.frozen? ⟨g, 3, none⟩ = false := by simp [World.frozen?, h.head]
  have c3 := blk_cell h.head 3 _ rfl
  go_enter Try.func55, Try.ntmps55
  go_wp2_with fail
  go_ret
  exact ⟨rfl, h.with false 0 (by simp) (fun k hk => Below.heap_setCell w ⟨g, 3, none⟩ _ k hk) ((heap_setCell_same w g 3 _ _ _ h.head).trans rfl), grown_setC (World.grownBy.refl w _) 3 _, by simp⟩

theorem step_yes (h : Dk w B N g gs gn rw L cs cn st nw ws true left) (hne : left ≠ 0) (hl : -1 ≤ left) (hm : left ≤ 9223372036854775807) (l' : Int) (hl' : stepped left = l') :
    Calls Try.prog 55 #[.pointer (some ⟨g, 0, none⟩)] w fun e w' => e = .returned (.bool true) ∧ Dk w' B N g gs gn rw L cs cn st nw ws true l' ∧ w.grownBy w' (some g) ∧ w'.heap.size = w.heap.size := by
  have c4 := blk_cell h.head 4 _ rfl
  have f4 : w.frozen? ⟨g, 4, none⟩ = false := by simp [World.frozen?, h.head]
  have hz : (left == 0) = false := by simp [hne]
  unfold stepped at hl'
  by_cases hp : 0 < left
  · rw [if_pos hp] at hl'
    subst hl'
    go_enter Try.func55, Try.ntmps55
    go_wp2_with fail
    go_ret
    exact ⟨rfl, h.with true (left - 1) (by simp) (fun k hk => Below.heap_setCell w ⟨g, 4, none⟩ _ k hk) ((heap_setCell_same w g 4 _ _ _ h.head).trans rfl), grown_setC (World.grownBy.refl w _) 4 _, by simp⟩
  · rw [if_neg hp] at hl'
    subst hl'
    go_enter Try.func55, Try.ntmps55
    go_wp2_with fail
    go_ret
    exact ⟨rfl, h, World.grownBy.refl w _, rfl⟩
end
end Go.Proofs.Ytehmkegbmbkkbaa
