/- What BitmapActs wants besides: the turn back; what is refused; the reference's calls. -/
import Derived.Test.YtobfepkeikecoaaBmQ
namespace Go.Proofs.Ytobfepkeikecoaa
open Go.RowKit PageM
set_option linter.unusedVariables false

set_option maxHeartbeats 1000000 in
set_option maxRecDepth 100000 in
theorem from_bm (p : Int) (U : List Bool) (hU : U.length = 512) (w : World) (C : Array Value) (eC : C = mapC p U) :
    Calls Try.prog 11 #[.agg C] w fun e w' => e = .returned (.agg C) ∧ Below w.heap.size w w' := by
  have hm0 : MapAt ((w.alloc (.cells C 25)).alloc (.cells Try.zeroCells27 27)) w.heap.size 25 p U := by rw [eC]; exact (MapAt.new w _ p U).alloc _
  have c0 := hm0.c0
  have HR := Lib.hid hm0.range
  have hL : Hid (some 512 = some (U.map Value.bool).length) := Lib.hid (by simp [hU])
  have IA : Hid ((Try.prog.info? 23).map (·.size) = some 512) := Lib.hid (by kernel_rfl)
  have hb1 : Below w.heap.size w ((w.alloc (.cells C 25)).alloc (.cells Try.zeroCells27 27)) := ((Below.refl _ _).alloc (Nat.le_refl _) _).alloc (by simp) _
  have HB1 := Lib.hid hb1
  have HZ : Hid (((w.alloc (.cells C 25)).alloc (.cells Try.zeroCells27 27)).heap[w.heap.size + 1]? = some (.cells Try.zeroCells27 27 (0, 0))) := Lib.hid (heap_alloc2_new _ _ _)
  have HFO : Hid (List.foldl (fun cs (x : Value × Nat) => cs.setIfInBounds (1 + x.snd) x.fst) ((Try.zeroCells27).setIfInBounds 0 (Value.int .i64 p)) (List.map Value.bool U).zipIdx = C) := Lib.hid (by rw [eC]; exact fold_map p U hU _ size_zeroMapR)
  have hS : Hid (some 513 = some C.size) := Lib.hid (by rw [eC, size_mapC hU])
  have hO : Hid (C.all (·.oneCell') = true) := Lib.hid (by rw [eC]; exact one_mapC _ _)
  clear eC hm0 hb1
  go_enter Try.func11, Try.ntmps11
  go_wp2_with (first
    | (refine wpList_load_mid rfl 23 _ rfl w.heap.size 1 rfl _ _ HR.out Try.underlying23 rfl (IA.out.trans hL.out) ?_)
    | (rw [HFO.out]; refine wpList_store_row rfl 27 (.tmp 2) (.tmp 7) rfl (w.heap.size + 1) C rfl rfl 27 Try.zeroCells27 HZ.out (infoMapR.trans hS.out) (size_zeroMapR.trans (Option.some.inj hS.out)) hO.out ?_))
  exact bodyPost_ret (v := .agg C) (results_cell_row (p := 2) (ty := 27) rfl _ _ (w.heap.size + 1) 27 C (0, 0) _ rfl (setRow_heap _ _ _ _ _ _ HZ.out) Try.underlying27 rfl (infoMapR.trans hS.out)) rfl ⟨rfl, below_setRow HB1.out (Nat.le_succ _) _⟩

theorem results_cell2 {P : Program} {fn : Func} {p u v : Tmp} {ty : TypeId} (h : fn.results = #[.cell p ty, .tmp u, .tmp v]) (tmps : Array Value) (w : World) (g : Nat) (t : TypeId) (cs : Array Value) (fr : Nat × Nat) (d : TypeDesc)
    (hp : tmps.getD p undef = .pointer (some ⟨g, 0, none⟩)) (hg : w.heap[g]? = some (.cells cs t fr))
    (hu : P.underlying ty = some d) (hd : (match d with | .struct _ | .array _ _ => true | _ => false) = true) (hi : (P.info? ty).map (·.size) = some cs.size) :
    (results fn tmps).run P w = .ok (.tuple #[.agg cs, tmps.getD u undef, tmps.getD v undef]) w := by
  have hp' : tmps[p]?.getD undef = .pointer (some ⟨g, 0, none⟩) := by simpa using hp
  simp [results, h, hp', asAddr, run_loadVar_row w g t ty cs fr d hg hu hd hi]
set_option maxHeartbeats 1000000 in
set_option maxRecDepth 100000 in
/-- Where two maps can't be looked at together, or too few are asked for: nothing is taken. -/
theorem take_arg (p q : Int) (U V : List Bool) (hU : U.length = 512) (hV : V.length = 512) (z : Int) (hbad : ¬ (okM p U ∧ okM q V ∧ p = q) ∨ z < 1) (w : World) (C D : Array Value) (eC : C = mapC p U) (eD : D = mapC q V) :
    Calls Try.prog 12 #[.agg C, .agg D, .int .i64 z] w fun e w' => e = .returned (.tuple #[.agg Try.zeroCells25, .int .i64 0, .int .i64 1]) ∧ Below w.heap.size w w' := by
  have hS : Hid (some 513 = some C.size) := Lib.hid (by rw [eC, size_mapC hU])
  have hT : Hid (some 513 = some D.size) := Lib.hid (by rw [eD, size_mapC hV])
  obtain ⟨W, eW⟩ : ∃ W, W = ((w.alloc (.cells C 25)).alloc (.cells D 25)).alloc (.cells Try.zeroCells25 25) := ⟨_, rfl⟩
  have HBL : Hid (Below w.heap.size w W) := Lib.hid (by rw [eW]; exact (((Below.refl _ _).alloc (Nat.le_refl _) _).alloc (by simp) _).alloc (by simp; omega) _)
  have HZ : Hid (W.heap[w.heap.size + 2]? = some (.cells Try.zeroCells25 25 (0, 0))) := Lib.hid (by rw [eW]; have := heap_alloc_new ((w.alloc (.cells C 25)).alloc (.cells D 25)) (.cells Try.zeroCells25 25); simpa using this)
  have hg1 : Hid (W.heap[w.heap.size]? = some (.cells C 25 (0, 0))) := Lib.hid (by rw [eW]; exact (Below.heap_alloc _ _ _ (by simp; omega)).trans (heap_alloc2_old _ _ _))
  have hg2 : Hid (W.heap[w.heap.size + 1]? = some (.cells D 25 (0, 0))) := Lib.hid (by rw [eW]; exact (Below.heap_alloc _ _ _ (by simp)).trans (heap_alloc2_new _ _ _))
  have hWs : Hid (W.heap.size = w.heap.size + 3) := Lib.hid (by rw [eW]; simp)
  obtain ⟨r, hr⟩ : ∃ r, r = (decide (okM p U) && decide (okM q V) && decide (p = q)) := ⟨_, rfl⟩
  have HTG := Lib.hid (fun W => together_bm p q U V hU hV W C D eC eD r hr)
  have HSZ : Hid (some 513 = some (Try.zeroCells25).size) := Lib.hid (by rw [size_zeroMap])
  have hcase : r = false ∨ (r = true ∧ z < 1) := by
    rw [hr]
    by_cases h : okM p U ∧ okM q V ∧ p = q
    · rcases hbad with h2 | h2
      · exact absurd h h2
      · exact .inr ⟨by rw [decide_eq_true h.1, decide_eq_true h.2.1, decide_eq_true h.2.2]; rfl, h2⟩
    · left
      simp only [Bool.and_eq_false_iff, decide_eq_false_iff_not]
      by_cases h1 : okM p U
      · by_cases h3 : okM q V
        · exact .inr (fun h4 => h ⟨h1, h3, h4⟩)
        · exact .inl (.inr h3)
      · exact .inl (.inl h1)
  have EW := Lib.hid eW.symm
  clear eW eC eD hr hbad
  rcases hcase with rfl | ⟨rfl, hz⟩
  · go_enter Try.func12, Try.ntmps12
    go_upto_region 1 with fail
    rw [EW.out]
    go_wp2_with (first
      | (refine wpList_load_row rfl 25 (.tmp 3) rfl w.heap.size rfl 25 C (0, 0) _ hg1.out Try.underlying25 rfl (infoMap.trans hS.out) ?_)
      | (refine wpList_load_row rfl 25 (.tmp 4) rfl (w.heap.size + 1) rfl 25 D (0, 0) _ hg2.out Try.underlying25 rfl (infoMap.trans hT.out) ?_)
      | (go_at_call 40; (refine (HTG.out _).mono ?_); rintro e w1 ⟨rfl, hb1⟩; have HZ1 := Lib.hid ((hb1.block _ (by rw [hWs.out]; omega)).trans HZ.out))
      | (refine wpList_store_row rfl 25 (.tmp 6) (.tmp 20) rfl (w.heap.size + 2) Try.zeroCells25 rfl rfl 25 Try.zeroCells25 HZ1.out infoZero rfl one_zeroMap ?_))
    refine bodyPost_ret (v := .tuple #[.agg Try.zeroCells25, .int .i64 0, .int .i64 1]) (results_cell2 (p := 6) (u := 7) (v := 8) (ty := 25) rfl _ _ (w.heap.size + 2) 25 Try.zeroCells25 (0, 0) _ rfl (setRow_heap _ _ _ _ _ _ HZ1.out) Try.underlying25 rfl infoZero) rfl ⟨rfl, below_setRow (HBL.out.trans (hb1.mono HBL.out.size)) (by omega) _⟩
  · have d1 : decide (z < 1) = true := by simpa using hz
    go_enter Try.func12, Try.ntmps12
    go_upto_region 1 with fail
    rw [EW.out]
    go_wp2_with (first
      | (refine wpList_load_row rfl 25 (.tmp 3) rfl w.heap.size rfl 25 C (0, 0) _ hg1.out Try.underlying25 rfl (infoMap.trans hS.out) ?_)
      | (refine wpList_load_row rfl 25 (.tmp 4) rfl (w.heap.size + 1) rfl 25 D (0, 0) _ hg2.out Try.underlying25 rfl (infoMap.trans hT.out) ?_)
      | (go_at_call 40; (refine (HTG.out _).mono ?_); rintro e w1 ⟨rfl, hb1⟩; have HZ1 := Lib.hid ((hb1.block _ (by rw [hWs.out]; omega)).trans HZ.out))
      | (refine wpList_store_row rfl 25 (.tmp 6) (.tmp 20) rfl (w.heap.size + 2) Try.zeroCells25 rfl rfl 25 Try.zeroCells25 HZ1.out infoZero rfl one_zeroMap ?_))
    refine bodyPost_ret (v := .tuple #[.agg Try.zeroCells25, .int .i64 0, .int .i64 1]) (results_cell2 (p := 6) (u := 7) (v := 8) (ty := 25) rfl _ _ (w.heap.size + 2) 25 Try.zeroCells25 (0, 0) _ rfl (setRow_heap _ _ _ _ _ _ HZ1.out) Try.underlying25 rfl infoZero) rfl ⟨rfl, below_setRow (HBL.out.trans (hb1.mono HBL.out.size)) (by omega) _⟩

set_option maxHeartbeats 1000000 in
set_option maxRecDepth 100000 in
/-- Where nothing can be given back so. -/
theorem give_arg (p : Int) (U : List Bool) (hU : U.length = 512) (za zn : Int) (hbad : ¬ okM p U ∨ zn < 0 ∨ za < 2 ∨ p - zn < za) (hzn : -9223372036854775808 ≤ zn) (hzn2 : zn ≤ 9223372036854775807) (w : World) (C : Array Value) (eC : C = mapC p U) :
    Calls Try.prog 14 #[.agg C, .int .i64 za, .int .i64 zn] w fun e w' => e = .returned (.tuple #[.agg Try.zeroCells25, .int .i64 1]) ∧ Below w.heap.size w w' := by
  have hS : Hid (some 513 = some C.size) := Lib.hid (by rw [eC, size_mapC hU])
  obtain ⟨W, eW⟩ : ∃ W, W = (w.alloc (.cells C 25)).alloc (.cells Try.zeroCells25 25) := ⟨_, rfl⟩
  have HM : Hid (MapAt W w.heap.size 25 p U) := Lib.hid (by rw [eW, eC]; exact (MapAt.new w _ _ U).alloc _)
  have HBL : Hid (Below w.heap.size w W) := Lib.hid (by rw [eW]; exact ((Below.refl _ _).alloc (Nat.le_refl _) _).alloc (by simp) _)
  have HZ : Hid (W.heap[w.heap.size + 1]? = some (.cells Try.zeroCells25 25 (0, 0))) := Lib.hid (by rw [eW]; exact heap_alloc2_new _ _ _)
  have hg1 : Hid (W.heap[w.heap.size]? = some (.cells C 25 (0, 0))) := Lib.hid (by rw [eC]; exact HM.out)
  have hWs : Hid (W.heap.size = w.heap.size + 2) := Lib.hid (by rw [eW]; simp)
  obtain ⟨r, hr⟩ : ∃ r, r = decide (okM p U) := ⟨_, rfl⟩
  have HRG := Lib.hid (fun W => right_bmC p U hU W C eC r hr)
  have hcase : r = false ∨ (r = true ∧ 8 ≤ p ∧ p ≤ 512 ∧ (zn < 0 ∨ (0 ≤ zn ∧ za < 2) ∨ (0 ≤ zn ∧ 2 ≤ za ∧ p - zn < za))) := by
    by_cases h : okM p U
    · right
      refine ⟨by rw [hr, decide_eq_true h], h.1, h.2.1, ?_⟩
      rcases hbad with h2 | h2 | h2 | h2
      · exact absurd h h2
      · exact .inl h2
      · omega
      · omega
    · left
      rw [hr, decide_eq_false h]
  have EW := Lib.hid eW.symm
  clear eW eC hr hbad
  rcases hcase with rfl | ⟨rfl, hp8, hp5, h1 | ⟨h1, h2⟩ | ⟨h1, h2, h3⟩⟩
  · go_enter Try.func14, Try.ntmps14
    go_upto_region 1 with fail
    rw [EW.out]
    go_wp2_with (first
      | (refine wpList_load_row rfl 25 (.tmp 3) rfl w.heap.size rfl 25 C (0, 0) _ hg1.out Try.underlying25 rfl (infoMap.trans hS.out) ?_)
      | (go_at_call 21; (refine (HRG.out _).mono ?_); rintro e w1 ⟨rfl, hb1⟩; have HZ1 := Lib.hid ((hb1.block _ (by rw [hWs.out]; omega)).trans HZ.out); have k0 := (HM.out.below hb1 HM.out.lt).c0)
      | (refine wpList_store_row rfl 25 (.tmp 6) (.tmp 29) rfl (w.heap.size + 1) Try.zeroCells25 rfl rfl 25 Try.zeroCells25 HZ1.out infoZero rfl one_zeroMap ?_))
    refine bodyPost_ret (v := .tuple #[.agg Try.zeroCells25, .int .i64 1]) (results_cell_tmpB (p := 6) (u := 7) (ty := 25) rfl _ _ (w.heap.size + 1) 25 Try.zeroCells25 (0, 0) _ rfl (setRow_heap _ _ _ _ _ _ HZ1.out) Try.underlying25 rfl infoZero) rfl ⟨rfl, below_setRow (HBL.out.trans (hb1.mono HBL.out.size)) (by omega) _⟩
  · have d1 : decide (zn < 0) = true := by simpa using h1
    go_enter Try.func14, Try.ntmps14
    go_upto_region 1 with fail
    rw [EW.out]
    go_wp2_with (first
      | (refine wpList_load_row rfl 25 (.tmp 3) rfl w.heap.size rfl 25 C (0, 0) _ hg1.out Try.underlying25 rfl (infoMap.trans hS.out) ?_)
      | (go_at_call 21; (refine (HRG.out _).mono ?_); rintro e w1 ⟨rfl, hb1⟩; have HZ1 := Lib.hid ((hb1.block _ (by rw [hWs.out]; omega)).trans HZ.out); have k0 := (HM.out.below hb1 HM.out.lt).c0)
      | (refine wpList_store_row rfl 25 (.tmp 6) (.tmp 29) rfl (w.heap.size + 1) Try.zeroCells25 rfl rfl 25 Try.zeroCells25 HZ1.out infoZero rfl one_zeroMap ?_))
    refine bodyPost_ret (v := .tuple #[.agg Try.zeroCells25, .int .i64 1]) (results_cell_tmpB (p := 6) (u := 7) (ty := 25) rfl _ _ (w.heap.size + 1) 25 Try.zeroCells25 (0, 0) _ rfl (setRow_heap _ _ _ _ _ _ HZ1.out) Try.underlying25 rfl infoZero) rfl ⟨rfl, below_setRow (HBL.out.trans (hb1.mono HBL.out.size)) (by omega) _⟩
  · have d1 : decide (zn < 0) = false := by simpa using h1
    have d2 : decide (za < 2) = true := by simpa using h2
    go_enter Try.func14, Try.ntmps14
    go_upto_region 1 with fail
    rw [EW.out]
    go_wp2_with (first
      | (refine wpList_load_row rfl 25 (.tmp 3) rfl w.heap.size rfl 25 C (0, 0) _ hg1.out Try.underlying25 rfl (infoMap.trans hS.out) ?_)
      | (go_at_call 21; (refine (HRG.out _).mono ?_); rintro e w1 ⟨rfl, hb1⟩; have HZ1 := Lib.hid ((hb1.block _ (by rw [hWs.out]; omega)).trans HZ.out); have k0 := (HM.out.below hb1 HM.out.lt).c0)
      | (refine wpList_store_row rfl 25 (.tmp 6) (.tmp 29) rfl (w.heap.size + 1) Try.zeroCells25 rfl rfl 25 Try.zeroCells25 HZ1.out infoZero rfl one_zeroMap ?_))
    refine bodyPost_ret (v := .tuple #[.agg Try.zeroCells25, .int .i64 1]) (results_cell_tmpB (p := 6) (u := 7) (ty := 25) rfl _ _ (w.heap.size + 1) 25 Try.zeroCells25 (0, 0) _ rfl (setRow_heap _ _ _ _ _ _ HZ1.out) Try.underlying25 rfl infoZero) rfl ⟨rfl, below_setRow (HBL.out.trans (hb1.mono HBL.out.size)) (by omega) _⟩
  · have d1 : decide (zn < 0) = false := by simpa using h1
    have d2 : decide (za < 2) = false := by simpa using h2
    have d3 : decide (p - zn < za) = true := by simpa using h3
    go_enter Try.func14, Try.ntmps14
    go_upto_region 1 with fail
    rw [EW.out]
    go_wp2_with (first
      | (refine wpList_load_row rfl 25 (.tmp 3) rfl w.heap.size rfl 25 C (0, 0) _ hg1.out Try.underlying25 rfl (infoMap.trans hS.out) ?_)
      | (go_at_call 21; (refine (HRG.out _).mono ?_); rintro e w1 ⟨rfl, hb1⟩; have HZ1 := Lib.hid ((hb1.block _ (by rw [hWs.out]; omega)).trans HZ.out); have k0 := (HM.out.below hb1 HM.out.lt).c0)
      | (refine wpList_store_row rfl 25 (.tmp 6) (.tmp 29) rfl (w.heap.size + 1) Try.zeroCells25 rfl rfl 25 Try.zeroCells25 HZ1.out infoZero rfl one_zeroMap ?_))
    refine bodyPost_ret (v := .tuple #[.agg Try.zeroCells25, .int .i64 1]) (results_cell_tmpB (p := 6) (u := 7) (ty := 25) rfl _ _ (w.heap.size + 1) 25 Try.zeroCells25 (0, 0) _ rfl (setRow_heap _ _ _ _ _ _ HZ1.out) Try.underlying25 rfl infoZero) rfl ⟨rfl, below_setRow (HBL.out.trans (hb1.mono HBL.out.size)) (by omega) _⟩
end Go.Proofs.Ytobfepkeikecoaa
