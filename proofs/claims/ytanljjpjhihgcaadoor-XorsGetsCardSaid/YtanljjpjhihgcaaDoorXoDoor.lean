/- What the condition on the table gives: where it stands; a world that meets it. -/
import Derived.Test.YtanljjpjhihgcaaDoorXoTz
import Derived.Test.YtanljjpjhihgcaaDoorRows
import Derived.LaidMore
import Derived.LaidHandle
import Derived.Lib.LaidTab
import Derived.Stop.Joined
namespace Go.Proofs.YtanljjpjhihgcaaDoor
open Go Go.RowKit BitM
set_option maxRecDepth 100000

abbrev laidTab : List (String × DataW Unit) := [("math/bits.deBruijn64tab", Rows.laid_math_bits_deBruijn64tab)]
theorem gTab : Tryd.prog.globalNamed "math/bits.deBruijn64tab" = some 1 := by kernel_rfl
theorem gTabType : (Tryd.prog.globals[1]?).map (·.type) = some 107 := by kernel_rfl
theorem cTab8 : Tryd.prog.cellsOf 5 = 1 := by kernel_rfl
theorem cTab : Tryd.prog.cellsOf 107 = 64 := by kernel_rfl
theorem laidTab_eq : (laidTab : List (String × DataW Unit)) = ("math/bits.deBruijn64tab", Lib.tabData .u8 (deB.map fun (n : Nat) => (n : Int))) :: [] := rfl
theorem tab_met (os : Os) (args : Array Value) : laidMetH Tryd.prog laidTab ((World.doorLaid Tryd.prog 23 os).forCall (fun _ _ => 0) ⟨#[], args, []⟩).memory :=
  laidMetH_of_parts3 (fuel := 8) (laidMet_of_run' 8 (by kernel_rfl) (by kernel_rfl)) (by kernel_rfl) (by kernel_rfl)
theorem tab_of_laid {W : World} (h : laidMetH Tryd.prog laidTab W) : TabAt W := by
  rw [MakeChecks.laidMetH_plain _ _ _ (by kernel_rfl), laidTab_eq] at h
  have hT := Lib.tabIs_of_head gTab gTabType Tryd.underlying107 Tryd.underlying5 cTab8 cTab h
  intro i hi
  have hc := hT.cell gTab i (by simpa [deB] using hi)
  rw [hc]
  congr 2
  rw [List.getD_eq_getElem?_getD, List.getD_eq_getElem?_getD, List.getElem?_map]
  have : i < deB.length := by simpa [deB] using hi
  rw [List.getElem?_eq_getElem this]
  rfl
end Go.Proofs.YtanljjpjhihgcaaDoor
