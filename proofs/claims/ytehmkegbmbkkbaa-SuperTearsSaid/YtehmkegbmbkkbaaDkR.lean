/- Read and Image of a disk. -/
import Derived.Test.YtehmkegbmbkkbaaDkL
namespace Go.Proofs.Ytehmkegbmbkkbaa
open Go.RowKit
set_option linter.unusedVariables false
section
variable {w w' : World} {B N g gs gn L cs cn : Nat} {rw : Value} {st nw : List UInt8} {ws : List (Nat × List UInt8)} {on : Bool} {left : Int}

theorem image_any (h : Dk w B N g gs gn rw L cs cn st nw ws on left) :
    Calls Try.prog 19 #[.pointer (some ⟨g, 0, none⟩)] w fun e w' => ∃ A c, e = .returned (.slice A L c) ∧ OwnS w' w.heap.size (.slice A L c) 5 st ∧ Below w.heap.size w w' := by
  have c0 := blk_cell h.head 0 _ rfl
  have hl := h.hi
  have hlo := h.lo
  have hby := Lib.hid h.stay.bytes
  have hst := Lib.hid h.lst
  go_enter Try.func19, Try.ntmps19
  go_wp2_with (go_at_call 53; refine (clone_any _ L cs st w hst.out hby.out (by omega) (fun h => by cases h)).mono ?_; rintro e w1 ⟨A1, c1, rfl, ho1, hb1⟩)
  go_ret
  exact ⟨A1, c1, rfl, ho1, hb1⟩

theorem BytesAt.mid {b : Nat} {xs : List UInt8} (h : BytesAt w (some ⟨b, 0, none⟩) xs) (o n : Nat) : BytesAt w (some ⟨b, o, none⟩) ((xs.drop o).take n) :=
  (h.cut o (some ⟨b, o, none⟩) (fun _ => by rw [Option.map_some]; congr 1; unfold Addr.add; split <;> simp_all)).take n

set_option maxRecDepth 100000 in
theorem read_ok (h : Dk w B N g gs gn rw L cs cn st nw ws true left) (z : Int) (i : Nat) (hz : z = (i : Int)) (hi : 64 * i + 64 ≤ L) :
    Calls Try.prog 12 #[.pointer (some ⟨g, 0, none⟩), .int .i64 z] w fun e w' => ∃ A c, e = .returned (.tuple #[.slice A 64 c, .int .i64 0]) ∧ OwnS w' w.heap.size (.slice A 64 c) 5 ((nw.drop (64 * i)).take 64) ∧ Below w.heap.size w w' := by
  subst hz
  have c1 := blk_cell h.head 1 _ rfl
  have hl := h.hi
  obtain ⟨_, hcn, hcm, _⟩ := h.now.parts
  rw [h.lnw] at hcn
  have H := Lib.hid h
  have hby := Lib.hid (BytesAt.mid h.now.bytes (64 * i) 64)
  have hln : Hid (((nw.drop (64 * i)).take 64).length = 64) := Lib.hid (by simp [h.lnw]; omega)
  clear h
  go_enter Try.func12, Try.ntmps12
  go_wp2_with (first
    | (go_at_call 49; refine (refused_on H.out).mono ?_; rintro e w1 ⟨rfl, rfl⟩)
    | (go_at_call 52; refine (has_yes H.out _ i rfl hi).mono ?_; rintro e w1 ⟨rfl, rfl⟩)
    | (go_at_call 51; refine (sector_any gn cn i hi hl hcn hcm _ rfl).mono ?_; rintro e w1 ⟨rfl, rfl⟩)
    | (go_at_call 53; refine (clone_any _ 64 _ _ _ hln.out hby.out (by omega) (fun h => by cases h)).mono ?_; rintro e w1 ⟨A1, c1, rfl, ho1, hb1⟩))
  go_ret2
  exact ⟨A1, c1, rfl, ho1, hb1⟩
end
end Go.Proofs.Ytehmkegbmbkkbaa
