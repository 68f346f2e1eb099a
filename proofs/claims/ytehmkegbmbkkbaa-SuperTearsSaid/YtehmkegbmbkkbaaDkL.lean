/- Disks that are new, or loaded. -/
import Derived.Test.YtehmkegbmbkkbaaDkM
namespace Go.Proofs.Ytehmkegbmbkkbaa
open Go.RowKit
set_option linter.unusedVariables false

theorem OwnS.ownB {w : World} {base n c : Nat} {A : Option Addr} {E : TypeId} {xs : List UInt8} (h : OwnS w base (.slice A n c) E xs) (hp : 0 < n) : ∃ g, A = some ⟨g, 0, none⟩ ∧ OwnB w base g c E xs ∧ xs.length = n := by
  have hc := h.caps
  rcases h.cases with ⟨h1, h2⟩ | ⟨g, cap, hv, hob⟩
  · subst h2
    have := hc.1
    simp at this
    omega
  · injection hv with hv1 hv2 hv3
    subst hv1 hv3
    exact ⟨g, rfl, hob, hc.1⟩

theorem load_bad (A : Option Addr) (n c : Nat) (w : World) (h : n % 256 ≠ 0 ∨ n < 2048 ∨ 131327 < n) (hn : n ≤ 1000000) :
    Calls Try.prog 28 #[.slice A n c] w fun e w' => e = .returned (.tuple #[.pointer none, .int .i64 1]) ∧ w = w' := by
  by_cases h1 : n % 256 = 0
  · by_cases h2 : n < 2048
    · go_enter Try.func28, Try.ntmps28
      go_wp2_with fail
      all_goals go_ret2
      all_goals exact ⟨rfl, rfl⟩
    · go_enter Try.func28, Try.ntmps28
      go_wp2_with fail
      all_goals go_ret2
      all_goals exact ⟨rfl, rfl⟩
  · go_enter Try.func28, Try.ntmps28
    go_wp2_with fail
    all_goals go_ret2
    all_goals exact ⟨rfl, rfl⟩

set_option maxRecDepth 100000 in
theorem load_ok (A : Option Addr) (n c : Nat) (xs : List UInt8) (w : World) (hx : BytesAt w A xs) (hl : xs.length = n) (hn : n % 256 = 0) (h1 : 2048 ≤ n) (h2 : n ≤ 131072) (hA : A = none → n = 0 ∧ c = 0) :
    Calls Try.prog 28 #[.slice A n c] w fun e w' => ∃ g gs gn cs cn, e = .returned (.tuple #[.pointer (some ⟨g, 0, none⟩), .int .i64 0]) ∧ Dk w' w.heap.size w'.heap.size g gs gn (.slice none 0 0) n cs cn xs xs [] true (-1) ∧ Below w.heap.size w w' := by
  have HX := Lib.hid hx
  have HL := Lib.hid hl
  have HA := Lib.hid hA
  clear hx hl hA
  go_enter Try.func28, Try.ntmps28
  go_wp2_with (first
    | (go_at_call 53; refine (clone_any A n c xs w HL.out HX.out (by omega) HA.out).mono ?_; rintro e w1 ⟨A1, c1, rfl, ho1, hb1⟩; obtain ⟨gs, rfl, hob1, _⟩ := ho1.ownB (by omega))
    | (go_at_call 53; refine (clone_any A n c xs w1 HL.out (HX.out.below hb1) (by omega) HA.out).mono ?_; rintro e w2 ⟨A2, c2, rfl, ho2, hb2⟩; obtain ⟨gn, rfl, hob2, _⟩ := ho2.ownB (by omega)))
  go_ret2
  have hs1 := hb1.size
  have hs2 := hb2.size
  have p1 := hob1.lt
  have p2 := hob2.lt
  have q2 := hob2.parts.1
  refine ⟨w2.heap.size, gs, gn, c1, c2, rfl, ?_, (hb1.trans (hb2.mono hs1)).alloc (by omega) _⟩
  exact {
    head := heap_alloc_new _ _
    stay := (hob1.below hb2 p1).alloc _
    now := by
      have := hob2.alloc (.cells #[.slice (some ⟨gs, 0, none⟩) n c1, .slice (some ⟨gn, 0, none⟩) n c2, .slice none 0 0, .bool true, .int .i64 (-1)] 103)
      exact OwnS.mono this hs1
    wait := World.ownsRow_nil _ _ _ _
    lst := HL.out
    lnw := HL.out
    gB := by omega
    ne := by omega
    gN := by simp
    sN := by simp; omega
    nN := by simp; omega
    wN := fun k hk => by cases hk
    NN := Nat.le_refl _
    fit := fun p hp => by cases hp
    lo := h1
    hi := h2
    pg := hn }
end Go.Proofs.Ytehmkegbmbkkbaa
