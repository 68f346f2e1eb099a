/- The statements' small test of Put and Get: it is true in every world. -/
import Derived.Test.YtmmkmpjhmbocfaaPageRound
namespace Go.Proofs.Ytmmkmpjhmbocfaa
open Go.RowKit CrcM PageM
set_option linter.unusedVariables false

theorem put_lit (w : World) : Calls Try.prog 61 #[.agg tab, .agg #[.int .u8 76, .int .i64 3, .int .u64 1, .slice none 0 0]] w fun e w' => e = .returned (.tuple #[.slice (some ⟨w.heap.size + 1 + 1, 0, none⟩) 256 256, .int .i64 0]) ∧
    OwnB w' w.heap.size (w.heap.size + 1 + 1) 256 5 (putP ⟨76, ((3 : Nat) : Int), 1, []⟩) ∧ Below w.heap.size w w' :=
  put_ok 76 3 1 [] rfl (by omega) (by omega) (by simp) none 0 w (fun h => absurd rfl h) (Nat.le_refl _)

theorem get_lit (g : Nat) (w : World) (hx : BytesAt w (some ⟨g, 0, none⟩) (putP ⟨76, ((3 : Nat) : Int), 1, []⟩)) :
    Calls Try.prog 62 #[.agg tab, .slice (some ⟨g, 0, none⟩) 256 256] w fun e w' => ∃ A' c', e = .returned (.tuple #[.agg #[.int .u8 76, .int .i64 3, .int .u64 1, .slice A' 0 c'], .int .i64 0]) ∧ Below w.heap.size w w' :=
  (get_put (some ⟨g, 0, none⟩) 256 76 3 1 [] rfl (by omega) (by omega) (by simp) w hx (Nat.le_refl _)).mono fun e w' ⟨A', c', he, _, _, hb⟩ => ⟨A', c', he, hb⟩

set_option maxHeartbeats 1000000 in
set_option maxRecDepth 100000 in
theorem puts_any (w : World) : Calls Try.prog 33 #[] w fun e w' => e = .returned (.bool true) ∧ Below w.heap.size w w' := by
  have g0 : (putP ⟨76, ((3 : Nat) : Int), 1, []⟩).getD 0 0 = 76 := rfl
  have g3 : (putP ⟨76, ((3 : Nat) : Int), 1, []⟩).getD 3 0 = 3 := rfl
  have hl : (putP ⟨76, ((3 : Nat) : Int), 1, []⟩).length = 256 := length_putP _ (by simp)
  generalize ePP : putP ⟨76, ((3 : Nat) : Int), 1, []⟩ = PP at g0 g3 hl
  have G0 := Lib.hid g0
  have G3 := Lib.hid g3
  have HL := Lib.hid hl
  have EP := Lib.hid ePP
  clear g0 g3 hl ePP
  go_enter Try.func33, Try.ntmps33
  go_wp2_with (first
    | (go_at_call 29; refine (new_any _).mono ?_; rintro e w2 ⟨rfl, hb2⟩)
    | (refine wpList_store_row rfl 61 (.tmp 1) (.tmp 6) rfl w2.heap.size tab rfl rfl 61 Try.zeroCells61 (heap_alloc_new _ _) (by rw [size_tab]; exact info64) (by rw [size_tab, zero64, size_tabC]) (tab_one _) ?_; rw [World.setRow_alloc_new])
    | (refine wpList_load_row rfl 61 (.tmp 1) rfl w2.heap.size rfl 61 tab (0, 0) _ (heap_alloc_new _ _) Try.underlying61 rfl (by rw [size_tab]; exact info64) ?_)
    | (refine wpList_load_row rfl 61 (.tmp 1) rfl w2.heap.size rfl 61 tab (0, 0) _ ((hb3.block _ (by simp)).trans (heap_alloc_new _ _)) Try.underlying61 rfl (by rw [size_tab]; exact info64) ?_)
    | (go_at_call 61; refine (put_lit _).mono ?_; rintro e w3 ⟨rfl, hown, hb3⟩; rw [EP.out] at hown; have HB : Hid (BytesAt w3 (some ⟨w2.heap.size + 1 + 1 + 1, 0, none⟩) PP) := Lib.hid (by simpa using hown.bytes); have C0 : Hid (w3.cell? ⟨w2.heap.size + 1 + 1 + 1, 0, none⟩ = some (.int .u8 76)) := Lib.hid (by have := hown.cellAt 0 (by rw [HL.out]; omega); rw [G0.out] at this; simpa using this); have C3 : Hid (w3.cell? ⟨w2.heap.size + 1 + 1 + 1, 3, none⟩ = some (.int .u8 3)) := Lib.hid (by have := hown.cellAt 3 (by rw [HL.out]; omega); rw [G3.out] at this; simpa using this))
    | (go_at_call 62; refine (get_lit _ _ (by rw [EP.out]; exact HB.out)).mono ?_; rintro e w4 ⟨A', c', rfl, hb4⟩; have hl4 : w2.heap.size + 1 + 1 + 1 < w4.heap.size := (by have h1 := hown.lt; have h2 := hb4.size; simp at h1; omega); have d0 := (World.cell?_of_block (w := w4) (w' := w4.alloc (.cells #[.int .u8 76, .int .i64 3, .int .u64 1, .slice A' 0 c'] 66)) (a := ⟨w2.heap.size + 1 + 1 + 1, 0, none⟩) (Below.heap_alloc w4 _ _ hl4)).trans ((World.cell?_of_block (a := ⟨w2.heap.size + 1 + 1 + 1, 0, none⟩) (hb4.block _ (by simpa using hown.lt))).trans C0.out); have d3 := (World.cell?_of_block (w := w4) (w' := w4.alloc (.cells #[.int .u8 76, .int .i64 3, .int .u64 1, .slice A' 0 c'] 66)) (a := ⟨w2.heap.size + 1 + 1 + 1, 3, none⟩) (Below.heap_alloc w4 _ _ hl4)).trans ((World.cell?_of_block (a := ⟨w2.heap.size + 1 + 1 + 1, 3, none⟩) (hb4.block _ (by simpa using hown.lt))).trans C3.out)))
  go_ret
  exact ⟨rfl, (((hb2.alloc hb2.size _).trans (hb3.mono (by have := hb2.size; simp; omega))).trans (hb4.mono (by have := hb2.size; have := hb3.size; simp at this; omega))).alloc (by have := hb2.size; omega) _⟩
end Go.Proofs.Ytmmkmpjhmbocfaa
