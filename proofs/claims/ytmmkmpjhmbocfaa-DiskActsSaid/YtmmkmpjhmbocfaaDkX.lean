/- What a disk refuses; Fail. -/
import Derived.Test.YtmmkmpjhmbocfaaDiskWaits
namespace Go.Proofs.Ytmmkmpjhmbocfaa
open Go.RowKit
set_option linter.unusedVariables false
section
variable {w w' : World} {B N g gs gn L cs cn : Nat} {rw : Value} {st nw : List UInt8} {ws : List (Nat × List UInt8)} {on : Bool} {left : Int}

theorem write_off (h : Dk w B N g gs gn rw L cs cn st nw ws false left) (z : Int) (A : Option Addr) (n c : Nat) :
    Calls Try.prog 14 #[.pointer (some ⟨g, 0, none⟩), .int .i64 z, .slice A n c] w fun e w' => e = .returned (.int .i64 2) ∧ w = w' := by
  have H := Lib.hid h
  clear h
  go_enter Try.func14, Try.ntmps14
  go_wp2_with (go_at_call 49; refine (refused_off H.out).mono ?_; rintro e w1 ⟨rfl, rfl⟩)
  go_ret
  exact ⟨rfl, rfl⟩
theorem write_arg (h : Dk w B N g gs gn rw L cs cn st nw ws true left) (z : Int) (hz : z < 0 ∨ (L : Int) < 64 * z + 64) (A : Option Addr) (n c : Nat) :
    Calls Try.prog 14 #[.pointer (some ⟨g, 0, none⟩), .int .i64 z, .slice A n c] w fun e w' => e = .returned (.int .i64 1) ∧ w = w' := by
  have H := Lib.hid h
  have HZ := Lib.hid hz
  clear h hz
  go_enter Try.func14, Try.ntmps14
  go_wp2_with (first
    | (go_at_call 49; refine (refused_on H.out).mono ?_; rintro e w1 ⟨rfl, rfl⟩)
    | (go_at_call 52; refine (has_no H.out z HZ.out).mono ?_; rintro e w1 ⟨rfl, rfl⟩))
  go_ret
  exact ⟨rfl, rfl⟩
theorem write_stop (h : Dk w B N g gs gn rw L cs cn st nw ws true 0) (z : Int) (i : Nat) (hz : z = (i : Int)) (hi : 64 * i + 64 ≤ L) (A : Option Addr) (c : Nat) :
    Calls Try.prog 14 #[.pointer (some ⟨g, 0, none⟩), .int .i64 z, .slice A 64 c] w fun e w' => e = .returned (.int .i64 2) ∧ Dk w' B N g gs gn rw L cs cn st nw ws false 0 ∧ w.grownBy w' (some g) := by
  subst hz
  have H := Lib.hid h
  clear h
  go_enter Try.func14, Try.ntmps14
  go_wp2_with (first
    | (go_at_call 49; refine (refused_on H.out).mono ?_; rintro e w1 ⟨rfl, rfl⟩)
    | (go_at_call 52; refine (has_yes H.out _ i rfl hi).mono ?_; rintro e w1 ⟨rfl, rfl⟩)
    | (go_at_call 55; refine (step_no H.out).mono ?_; rintro e w1 ⟨rfl, h1, hg1, hz1⟩))
  go_ret
  exact ⟨rfl, h1, hg1⟩
theorem flush_off (h : Dk w B N g gs gn rw L cs cn st nw ws false left) :
    Calls Try.prog 15 #[.pointer (some ⟨g, 0, none⟩)] w fun e w' => e = .returned (.int .i64 2) ∧ w = w' := by
  have H := Lib.hid h
  clear h
  go_enter Try.func15, Try.ntmps15
  go_wp2_with (go_at_call 49; refine (refused_off H.out).mono ?_; rintro e w1 ⟨rfl, rfl⟩)
  go_ret
  exact ⟨rfl, rfl⟩
theorem flush_stop (h : Dk w B N g gs gn rw L cs cn st nw ws true 0) :
    Calls Try.prog 15 #[.pointer (some ⟨g, 0, none⟩)] w fun e w' => e = .returned (.int .i64 2) ∧ Dk w' B N g gs gn rw L cs cn st nw ws false 0 ∧ w.grownBy w' (some g) := by
  have H := Lib.hid h
  clear h
  go_enter Try.func15, Try.ntmps15
  go_wp2_with (first
    | (go_at_call 49; refine (refused_on H.out).mono ?_; rintro e w1 ⟨rfl, rfl⟩)
    | (go_at_call 55; refine (step_no H.out).mono ?_; rintro e w1 ⟨rfl, h1, hg1, hz1⟩))
  go_ret
  exact ⟨rfl, h1, hg1⟩
theorem fail_ok (h : Dk w B N g gs gn rw L cs cn st nw ws true left) (k : Nat) (hk : k ≤ 1000) :
    Calls Try.prog 10 #[.pointer (some ⟨g, 0, none⟩), .int .i64 (k : Int)] w fun e w' => e = .returned (.tuple #[]) ∧ Dk w' B N g gs gn rw L cs cn st nw ws true (k : Int) ∧ w.grownBy w' (some g) := by
  have H := Lib.hid h
  have f4 : w.frozen? ⟨g, 4, none⟩ = false := by simp [World.frozen?, h.head]
  have c4 := blk_cell h.head 4 _ rfl
  have hmax : max (k : Int) (-1) = (k : Int) := by omega
  clear h
  go_enter Try.func10, Try.ntmps10
  go_wp2_with (go_at_call 49; refine (refused_on H.out).mono ?_; rintro e w1 ⟨rfl, rfl⟩)
  exact bodyPost_end (results_none rfl _ _ _) rfl ⟨rfl, H.out.with true (k : Int) (by simp) (fun j hj => Below.heap_setCell w ⟨g, 4, none⟩ _ j hj) ((heap_setCell_same w g 4 _ _ _ H.out.head).trans rfl), grown_setC (World.grownBy.refl w _) 4 _⟩
end
end Go.Proofs.Ytmmkmpjhmbocfaa
