/- Package node's Get of the one byte 0. -/
import Derived.Test.YtgkddhncfaeidaaNgB
namespace Go.Proofs.Ytgkddhncfaeidaa
open Go.ChangeShapes Go.WideShapes Go.ChangeAt Go.RowKit CrcM PageM
set_option linter.unusedVariables false

set_option maxRecDepth 100000 in
set_option maxHeartbeats 4000000 in
theorem get_zero_true_one (g o : Nat) (w : World) (c0 : w.cell? ⟨g, o, none⟩ = some (.int .u8 0))  :
    Calls Try.prog 17 #[.bool true, .slice (some ⟨g, o, none⟩) 1 1] w fun e w' => e = .returned (.tuple #[.agg zeroNd, .int .i64 3]) ∧ Below w.heap.size w w' := by
  have hgl := World.block_lt_of_cell? _ _ c0
  have hnok : ¬ okNode ⟨true, [], [], []⟩ := by
    intro h
    have := (okNode_sizes h).2.2.2.2
    simp [NodeD.size] at this
  have HRC : Hid (∀ W', Calls Try.prog 13 #[.agg #[.bool true, .slice none 0 0, .slice none 0 0, .slice none 0 0]] W' fun e w' => e = .returned (.bool false) ∧ Below W'.heap.size W' w') := Lib.hid (fun W' => right_any ⟨true, [], [], []⟩ ⟨none, 0, none, 0, none, 0⟩ false (IsB.mkF hnok) W' { e := fun h => absurd rfl h, k := fun h => absurd rfl h, d := fun h => absurd rfl h, ec := Nat.le_refl _, kc := Nat.le_refl _, dc := Nat.le_refl _, em := by unfold maxLen; simp, km := by unfold maxLen; simp, dm := by unfold maxLen; simp })
  clear hnok
  go_enter Try.func17, Try.ntmps17
  go_upto_region 8 with fail
  obtain ⟨W, eW⟩ : ∃ W, W = ((w.alloc (.cells #[.bool false, .slice none 0 0, .slice none 0 0, .slice none 0 0] 34)).alloc (.cells #[.bool true, .slice none 0 0, .slice none 0 0, .slice none 0 0] 34)).alloc (.cells #[.slice (some ⟨g, o, none⟩) 0 0] 95) := ⟨_, rfl⟩
  have hbW : Below w.heap.size w W := by rw [eW]; exact (((Below.refl _ _).alloc (Nat.le_refl _) _).alloc (by simp) _).alloc (by simp; omega) _
  have hr0 : W.heap[w.heap.size]? = some (.cells #[.bool false, .slice none 0 0, .slice none 0 0, .slice none 0 0] 34 (0, 0)) := by
    rw [eW, Below.heap_alloc _ _ _ (by simp; omega)]
    exact heap_alloc2_old _ _ _
  have hr1 : W.heap[w.heap.size + 1]? = some (.cells #[.bool true, .slice none 0 0, .slice none 0 0, .slice none 0 0] 34 (0, 0)) := by
    rw [eW, Below.heap_alloc _ _ _ (by simp)]
    exact heap_alloc2_new _ _ _
  rw [← eW]
  have c1 := (hbW.cell hgl).trans c0
  have HBW := Lib.hid hbW
  have HR0 := Lib.hid hr0
  have HR1 := Lib.hid hr1
  clear eW hbW hr0 hr1 c0
  go_upto_region 9 with fail
  clear c1
  go_loopw [33] (fun i wr => i = .int .u8 0 ∧ wr = W) (fun i _ => 0)
  case atStart => exact ⟨rfl, rfl⟩
  case round =>
    obtain ⟨rfl, rfl⟩ := hrel
    go_wp2_with (first
      | (go_at_call 13; refine (HRC.out _).mono ?_; rintro e' x9 ⟨rfl, hb9⟩; have HB9 := Lib.hid hb9; have z9 := (hb9.block w.heap.size (Array.getElem?_eq_some_iff.1 HR0.out).1).trans HR0.out; have HZ9 := Lib.hid z9; obtain ⟨p0, p1, p2, p3, f0, f1, f2, f3⟩ := four_cells z9; clear hb9 z9)
      | (refine wpList_load_row rfl 34 (.tmp 7) rfl (w.heap.size + 1) rfl 34 _ (0, 0) _ HR1.out Try.underlying34 rfl (by kernel_rfl) ?_))
    refine bodyPost_ret (v := .tuple #[.agg #[.bool false, .slice none 0 0, .slice none 0 0, .slice none 0 0], .int .i64 3]) (results_cell_tmp' (p := 4) (u := 5) (ty := 34) rfl _ _ w.heap.size 34 #[.bool false, .slice none 0 0, .slice none 0 0, .slice none 0 0] (0, 0) _ rfl (set_four HZ9.out _ _ _ _) Try.underlying34 rfl (by kernel_rfl)) rfl ⟨rfl, below_set4 (g := w.heap.size) (HBW.out.trans (HB9.out.mono HBW.out.size)) (Nat.le_refl _) _ _ _ _⟩

set_option maxRecDepth 100000 in
set_option maxHeartbeats 4000000 in
theorem get_zero_true_more (g o cap : Nat) (w : World) (c0 : w.cell? ⟨g, o, none⟩ = some (.int .u8 0)) (hc : cap ≠ 1) (h1 : 1 ≤ cap) (hcm : cap ≤ 9223372036854775807) :
    Calls Try.prog 17 #[.bool true, .slice (some ⟨g, o, none⟩) 1 cap] w fun e w' => e = .returned (.tuple #[.agg zeroNd, .int .i64 3]) ∧ Below w.heap.size w w' := by
  have hgl := World.block_lt_of_cell? _ _ c0
  have hnok : ¬ okNode ⟨true, [], [], []⟩ := by
    intro h
    have := (okNode_sizes h).2.2.2.2
    simp [NodeD.size] at this
  have HRC : Hid (∀ W', Calls Try.prog 13 #[.agg #[.bool true, .slice none 0 0, .slice none 0 0, .slice none 0 0]] W' fun e w' => e = .returned (.bool false) ∧ Below W'.heap.size W' w') := Lib.hid (fun W' => right_any ⟨true, [], [], []⟩ ⟨none, 0, none, 0, none, 0⟩ false (IsB.mkF hnok) W' { e := fun h => absurd rfl h, k := fun h => absurd rfl h, d := fun h => absurd rfl h, ec := Nat.le_refl _, kc := Nat.le_refl _, dc := Nat.le_refl _, em := by unfold maxLen; simp, km := by unfold maxLen; simp, dm := by unfold maxLen; simp })
  clear hnok
  go_enter Try.func17, Try.ntmps17
  go_upto_region 8 with fail
  obtain ⟨W, eW⟩ : ∃ W, W = ((w.alloc (.cells #[.bool false, .slice none 0 0, .slice none 0 0, .slice none 0 0] 34)).alloc (.cells #[.bool true, .slice none 0 0, .slice none 0 0, .slice none 0 0] 34)).alloc (.cells #[.slice (some ⟨g, o + 1, none⟩) 0 (cap - 1)] 95) := ⟨_, rfl⟩
  have hbW : Below w.heap.size w W := by rw [eW]; exact (((Below.refl _ _).alloc (Nat.le_refl _) _).alloc (by simp) _).alloc (by simp; omega) _
  have hr0 : W.heap[w.heap.size]? = some (.cells #[.bool false, .slice none 0 0, .slice none 0 0, .slice none 0 0] 34 (0, 0)) := by
    rw [eW, Below.heap_alloc _ _ _ (by simp; omega)]
    exact heap_alloc2_old _ _ _
  have hr1 : W.heap[w.heap.size + 1]? = some (.cells #[.bool true, .slice none 0 0, .slice none 0 0, .slice none 0 0] 34 (0, 0)) := by
    rw [eW, Below.heap_alloc _ _ _ (by simp)]
    exact heap_alloc2_new _ _ _
  rw [← eW]
  have c1 := (hbW.cell hgl).trans c0
  have HBW := Lib.hid hbW
  have HR0 := Lib.hid hr0
  have HR1 := Lib.hid hr1
  clear eW hbW hr0 hr1 c0
  go_upto_region 9 with fail
  clear c1
  go_loopw [33] (fun i wr => i = .int .u8 0 ∧ wr = W) (fun i _ => 0)
  case atStart => exact ⟨rfl, rfl⟩
  case round =>
    obtain ⟨rfl, rfl⟩ := hrel
    go_wp2_with (first
      | (go_at_call 13; refine (HRC.out _).mono ?_; rintro e' x9 ⟨rfl, hb9⟩; have HB9 := Lib.hid hb9; have z9 := (hb9.block w.heap.size (Array.getElem?_eq_some_iff.1 HR0.out).1).trans HR0.out; have HZ9 := Lib.hid z9; obtain ⟨p0, p1, p2, p3, f0, f1, f2, f3⟩ := four_cells z9; clear hb9 z9)
      | (refine wpList_load_row rfl 34 (.tmp 7) rfl (w.heap.size + 1) rfl 34 _ (0, 0) _ HR1.out Try.underlying34 rfl (by kernel_rfl) ?_))
    refine bodyPost_ret (v := .tuple #[.agg #[.bool false, .slice none 0 0, .slice none 0 0, .slice none 0 0], .int .i64 3]) (results_cell_tmp' (p := 4) (u := 5) (ty := 34) rfl _ _ w.heap.size 34 #[.bool false, .slice none 0 0, .slice none 0 0, .slice none 0 0] (0, 0) _ rfl (set_four HZ9.out _ _ _ _) Try.underlying34 rfl (by kernel_rfl)) rfl ⟨rfl, below_set4 (g := w.heap.size) (HBW.out.trans (HB9.out.mono HBW.out.size)) (Nat.le_refl _) _ _ _ _⟩

set_option maxRecDepth 100000 in
set_option maxHeartbeats 4000000 in
theorem get_zero_false_one (g o : Nat) (w : World) (c0 : w.cell? ⟨g, o, none⟩ = some (.int .u8 0))  :
    Calls Try.prog 17 #[.bool false, .slice (some ⟨g, o, none⟩) 1 1] w fun e w' => e = .returned (.tuple #[.agg zeroNd, .int .i64 3]) ∧ Below w.heap.size w w' := by
  have hgl := World.block_lt_of_cell? _ _ c0
  have hnok : ¬ okNode ⟨false, [], [], []⟩ := by
    intro h
    have := (okNode_sizes h).2.2.2.2
    simp [NodeD.size] at this
  have HRC : Hid (∀ W', Calls Try.prog 13 #[.agg #[.bool false, .slice none 0 0, .slice none 0 0, .slice none 0 0]] W' fun e w' => e = .returned (.bool false) ∧ Below W'.heap.size W' w') := Lib.hid (fun W' => right_any ⟨false, [], [], []⟩ ⟨none, 0, none, 0, none, 0⟩ false (IsB.mkF hnok) W' { e := fun h => absurd rfl h, k := fun h => absurd rfl h, d := fun h => absurd rfl h, ec := Nat.le_refl _, kc := Nat.le_refl _, dc := Nat.le_refl _, em := by unfold maxLen; simp, km := by unfold maxLen; simp, dm := by unfold maxLen; simp })
  clear hnok
  go_enter Try.func17, Try.ntmps17
  go_upto_region 8 with fail
  obtain ⟨W, eW⟩ : ∃ W, W = ((w.alloc (.cells #[.bool false, .slice none 0 0, .slice none 0 0, .slice none 0 0] 34)).alloc (.cells #[.bool false, .slice none 0 0, .slice none 0 0, .slice none 0 0] 34)).alloc (.cells #[.slice (some ⟨g, o, none⟩) 0 0] 95) := ⟨_, rfl⟩
  have hbW : Below w.heap.size w W := by rw [eW]; exact (((Below.refl _ _).alloc (Nat.le_refl _) _).alloc (by simp) _).alloc (by simp; omega) _
  have hr0 : W.heap[w.heap.size]? = some (.cells #[.bool false, .slice none 0 0, .slice none 0 0, .slice none 0 0] 34 (0, 0)) := by
    rw [eW, Below.heap_alloc _ _ _ (by simp; omega)]
    exact heap_alloc2_old _ _ _
  have hr1 : W.heap[w.heap.size + 1]? = some (.cells #[.bool false, .slice none 0 0, .slice none 0 0, .slice none 0 0] 34 (0, 0)) := by
    rw [eW, Below.heap_alloc _ _ _ (by simp)]
    exact heap_alloc2_new _ _ _
  rw [← eW]
  have c1 := (hbW.cell hgl).trans c0
  have HBW := Lib.hid hbW
  have HR0 := Lib.hid hr0
  have HR1 := Lib.hid hr1
  clear eW hbW hr0 hr1 c0
  go_upto_region 9 with fail
  clear c1
  go_loopw [33] (fun i wr => i = .int .u8 0 ∧ wr = W) (fun i _ => 0)
  case atStart => exact ⟨rfl, rfl⟩
  case round =>
    obtain ⟨rfl, rfl⟩ := hrel
    go_wp2_with (first
      | (go_at_call 13; refine (HRC.out _).mono ?_; rintro e' x9 ⟨rfl, hb9⟩; have HB9 := Lib.hid hb9; have z9 := (hb9.block w.heap.size (Array.getElem?_eq_some_iff.1 HR0.out).1).trans HR0.out; have HZ9 := Lib.hid z9; obtain ⟨p0, p1, p2, p3, f0, f1, f2, f3⟩ := four_cells z9; clear hb9 z9)
      | (refine wpList_load_row rfl 34 (.tmp 7) rfl (w.heap.size + 1) rfl 34 _ (0, 0) _ HR1.out Try.underlying34 rfl (by kernel_rfl) ?_))
    refine bodyPost_ret (v := .tuple #[.agg #[.bool false, .slice none 0 0, .slice none 0 0, .slice none 0 0], .int .i64 3]) (results_cell_tmp' (p := 4) (u := 5) (ty := 34) rfl _ _ w.heap.size 34 #[.bool false, .slice none 0 0, .slice none 0 0, .slice none 0 0] (0, 0) _ rfl (set_four HZ9.out _ _ _ _) Try.underlying34 rfl (by kernel_rfl)) rfl ⟨rfl, below_set4 (g := w.heap.size) (HBW.out.trans (HB9.out.mono HBW.out.size)) (Nat.le_refl _) _ _ _ _⟩

set_option maxRecDepth 100000 in
set_option maxHeartbeats 4000000 in
theorem get_zero_false_more (g o cap : Nat) (w : World) (c0 : w.cell? ⟨g, o, none⟩ = some (.int .u8 0)) (hc : cap ≠ 1) (h1 : 1 ≤ cap) (hcm : cap ≤ 9223372036854775807) :
    Calls Try.prog 17 #[.bool false, .slice (some ⟨g, o, none⟩) 1 cap] w fun e w' => e = .returned (.tuple #[.agg zeroNd, .int .i64 3]) ∧ Below w.heap.size w w' := by
  have hgl := World.block_lt_of_cell? _ _ c0
  have hnok : ¬ okNode ⟨false, [], [], []⟩ := by
    intro h
    have := (okNode_sizes h).2.2.2.2
    simp [NodeD.size] at this
  have HRC : Hid (∀ W', Calls Try.prog 13 #[.agg #[.bool false, .slice none 0 0, .slice none 0 0, .slice none 0 0]] W' fun e w' => e = .returned (.bool false) ∧ Below W'.heap.size W' w') := Lib.hid (fun W' => right_any ⟨false, [], [], []⟩ ⟨none, 0, none, 0, none, 0⟩ false (IsB.mkF hnok) W' { e := fun h => absurd rfl h, k := fun h => absurd rfl h, d := fun h => absurd rfl h, ec := Nat.le_refl _, kc := Nat.le_refl _, dc := Nat.le_refl _, em := by unfold maxLen; simp, km := by unfold maxLen; simp, dm := by unfold maxLen; simp })
  clear hnok
  go_enter Try.func17, Try.ntmps17
  go_upto_region 8 with fail
  obtain ⟨W, eW⟩ : ∃ W, W = ((w.alloc (.cells #[.bool false, .slice none 0 0, .slice none 0 0, .slice none 0 0] 34)).alloc (.cells #[.bool false, .slice none 0 0, .slice none 0 0, .slice none 0 0] 34)).alloc (.cells #[.slice (some ⟨g, o + 1, none⟩) 0 (cap - 1)] 95) := ⟨_, rfl⟩
  have hbW : Below w.heap.size w W := by rw [eW]; exact (((Below.refl _ _).alloc (Nat.le_refl _) _).alloc (by simp) _).alloc (by simp; omega) _
  have hr0 : W.heap[w.heap.size]? = some (.cells #[.bool false, .slice none 0 0, .slice none 0 0, .slice none 0 0] 34 (0, 0)) := by
    rw [eW, Below.heap_alloc _ _ _ (by simp; omega)]
    exact heap_alloc2_old _ _ _
  have hr1 : W.heap[w.heap.size + 1]? = some (.cells #[.bool false, .slice none 0 0, .slice none 0 0, .slice none 0 0] 34 (0, 0)) := by
    rw [eW, Below.heap_alloc _ _ _ (by simp)]
    exact heap_alloc2_new _ _ _
  rw [← eW]
  have c1 := (hbW.cell hgl).trans c0
  have HBW := Lib.hid hbW
  have HR0 := Lib.hid hr0
  have HR1 := Lib.hid hr1
  clear eW hbW hr0 hr1 c0
  go_upto_region 9 with fail
  clear c1
  go_loopw [33] (fun i wr => i = .int .u8 0 ∧ wr = W) (fun i _ => 0)
  case atStart => exact ⟨rfl, rfl⟩
  case round =>
    obtain ⟨rfl, rfl⟩ := hrel
    go_wp2_with (first
      | (go_at_call 13; refine (HRC.out _).mono ?_; rintro e' x9 ⟨rfl, hb9⟩; have HB9 := Lib.hid hb9; have z9 := (hb9.block w.heap.size (Array.getElem?_eq_some_iff.1 HR0.out).1).trans HR0.out; have HZ9 := Lib.hid z9; obtain ⟨p0, p1, p2, p3, f0, f1, f2, f3⟩ := four_cells z9; clear hb9 z9)
      | (refine wpList_load_row rfl 34 (.tmp 7) rfl (w.heap.size + 1) rfl 34 _ (0, 0) _ HR1.out Try.underlying34 rfl (by kernel_rfl) ?_))
    refine bodyPost_ret (v := .tuple #[.agg #[.bool false, .slice none 0 0, .slice none 0 0, .slice none 0 0], .int .i64 3]) (results_cell_tmp' (p := 4) (u := 5) (ty := 34) rfl _ _ w.heap.size 34 #[.bool false, .slice none 0 0, .slice none 0 0, .slice none 0 0] (0, 0) _ rfl (set_four HZ9.out _ _ _ _) Try.underlying34 rfl (by kernel_rfl)) rfl ⟨rfl, below_set4 (g := w.heap.size) (HBW.out.trans (HB9.out.mono HBW.out.size)) (Nat.le_refl _) _ _ _ _⟩

theorem get_zero (leaf : Bool) (g o cap : Nat) (w : World) (c0 : w.cell? ⟨g, o, none⟩ = some (.int .u8 0)) (h1 : 1 ≤ cap) (hcm : cap ≤ maxLen) :
    Calls Try.prog 17 #[.bool leaf, .slice (some ⟨g, o, none⟩) 1 cap] w fun e w' => e = .returned (.tuple #[.agg zeroNd, .int .i64 3]) ∧ Below w.heap.size w w' := by
  unfold maxLen at hcm
  by_cases hc : cap = 1
  · subst hc
    cases leaf
    · exact get_zero_false_one g o w c0
    · exact get_zero_true_one g o w c0
  · cases leaf
    · exact get_zero_false_more g o cap w c0 hc h1 (by omega)
    · exact get_zero_true_more g o cap w c0 hc h1 (by omega)
end Go.Proofs.Ytgkddhncfaeidaa
