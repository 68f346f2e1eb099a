/- The reference's Take where too few are asked for; its Give of a map. -/
import Derived.Test.YtobfepkeikecoaaBmV
namespace Go.Proofs.Ytobfepkeikecoaa
open Go.RowKit PageM
set_option linter.unusedVariables false

set_option maxHeartbeats 1000000 in
set_option maxRecDepth 100000 in
theorem rtake_arg (p : Nat) (U V : List Bool) (hU : U.length = 512) (hV : V.length = 512) (okU : okM (p : Int) U) (okV : okM (p : Int) V) (z : Int) (hz : z < 1) (w : World) (C D : Array Value) (eC : C = mapC (p : Int) U) (eD : D = mapC (p : Int) V) :
    Calls Try.prog 13 #[.agg C, .agg D, .int .i64 z] w fun e w' => e = .returned (.tuple #[.agg Try.zeroCells27, .int .i64 0, .int .i64 1]) ∧ Below w.heap.size w w' := by
  have d1 : decide (z < 1) = true := by simpa using hz
  have hS : Hid (some 513 = some C.size) := Lib.hid (by rw [eC, size_mapC hU])
  have hT : Hid (some 513 = some D.size) := Lib.hid (by rw [eD, size_mapC hV])
  obtain ⟨W, eW⟩ : ∃ W, W = ((w.alloc (.cells C 27)).alloc (.cells D 27)).alloc (.cells Try.zeroCells27 27) := ⟨_, rfl⟩
  have HBL : Hid (Below w.heap.size w W) := Lib.hid (by rw [eW]; exact (((Below.refl _ _).alloc (Nat.le_refl _) _).alloc (by simp) _).alloc (by simp; omega) _)
  have HZ : Hid (W.heap[w.heap.size + 2]? = some (.cells Try.zeroCells27 27 (0, 0))) := Lib.hid (by rw [eW]; have := heap_alloc_new ((w.alloc (.cells C 27)).alloc (.cells D 27)) (.cells Try.zeroCells27 27); simpa using this)
  have hg1 : Hid (W.heap[w.heap.size]? = some (.cells C 27 (0, 0))) := Lib.hid (by rw [eW]; exact (Below.heap_alloc _ _ _ (by simp; omega)).trans (heap_alloc2_old _ _ _))
  have hg2 : Hid (W.heap[w.heap.size + 1]? = some (.cells D 27 (0, 0))) := Lib.hid (by rw [eW]; exact (Below.heap_alloc _ _ _ (by simp)).trans (heap_alloc2_new _ _ _))
  have hWs : Hid (W.heap.size = w.heap.size + 3) := Lib.hid (by rw [eW]; simp)
  have HRU := Lib.hid (fun W => right_rf (p : Int) U hU W C eC true (by simp [okU]))
  have HRV := Lib.hid (fun W => right_rf (p : Int) V hV W D eD true (by simp [okV]))
  have EC := Lib.hid eC
  have ED := Lib.hid eD
  have EW := Lib.hid eW.symm
  clear eW eC eD okU okV hU hV hz
  go_enter Try.func13, Try.ntmps13
  go_upto_region 1 with fail
  rw [EW.out]
  go_wp2_with (first
    | (refine wpList_load_row rfl 27 (.tmp 3) rfl w.heap.size rfl 27 C (0, 0) _ hg1.out Try.underlying27 rfl (infoMapR.trans hS.out) ?_)
    | (go_at_call 24; (refine (HRU.out _).mono ?_); rintro e w1 ⟨rfl, hb1⟩; have HG2 := Lib.hid ((hb1.block _ (by rw [hWs.out]; omega)).trans hg2.out)))
  refine wp_load_row 27 (.tmp 4) rfl (w.heap.size + 1) rfl 27 D (0, 0) _ HG2.out Try.underlying27 rfl (infoMapR.trans hT.out) ?_
  rename_i K2 hK2
  refine hK2 _ _ ?_
  clear hK2
  simp only [Act.put, List.setIfInBounds_toArray, List.set_cons_zero, List.set_cons_succ]
  go_wp2_with (first
    | (go_at_call 24; (refine (HRV.out _).mono ?_); rintro e w2 ⟨rfl, hb2⟩; have HB2 := Lib.hid ((HBL.out.trans (hb1.mono HBL.out.size)).trans (hb2.mono (HBL.out.trans (hb1.mono HBL.out.size)).size)); have hg31 := (hb2.block w.heap.size (by have := hb1.size; rw [hWs.out] at this; omega)).trans ((hb1.block _ (by rw [hWs.out]; omega)).trans hg1.out); have hg32 := (hb2.block (w.heap.size + 1) (by have := hb1.size; rw [hWs.out] at this; omega)).trans HG2.out; have HZ3 := Lib.hid ((hb2.block (w.heap.size + 2) (by have := hb1.size; rw [hWs.out] at this; omega)).trans ((hb1.block _ (by rw [hWs.out]; omega)).trans HZ.out)); have k1 : w2.cell? ⟨w.heap.size, 0, none⟩ = some (.int .i64 (p : Int)) := (show MapAt w2 w.heap.size 27 (p : Int) U by unfold MapAt; rw [← EC.out]; exact hg31).c0; have k2 : w2.cell? ⟨w.heap.size + 1, 0, none⟩ = some (.int .i64 (p : Int)) := (show MapAt w2 (w.heap.size + 1) 27 (p : Int) V by unfold MapAt; rw [← ED.out]; exact hg32).c0)
    | (refine wpList_store_row rfl 27 (.tmp 6) (.tmp 30) rfl (w.heap.size + 2) Try.zeroCells27 rfl rfl 27 Try.zeroCells27 HZ3.out infoZeroR rfl one_zeroMapR ?_))
  refine bodyPost_ret (v := .tuple #[.agg Try.zeroCells27, .int .i64 0, .int .i64 1]) (results_cell_tmp3 (p := 6) (u := 7) (v := 8) (ty := 27) rfl _ _ (w.heap.size + 2) 27 Try.zeroCells27 (0, 0) _ rfl (setRow_heap _ _ Try.zeroCells27 _ _ _ HZ3.out) Try.underlying27 rfl infoZeroR) rfl ⟨rfl, below_setRow HB2.out (by omega) _⟩

set_option maxHeartbeats 2000000 in
set_option maxRecDepth 100000 in
/-- Where nothing can be given back so. -/
theorem rgive_arg (p : Nat) (U : List Bool) (hU : U.length = 512) (okU : okM (p : Int) U) (za zn : Int) (hbad : zn < 0 ∨ za < 2 ∨ (p : Int) - zn < za) (hzn : -9223372036854775808 ≤ zn) (hzn2 : zn ≤ 9223372036854775807) (w : World) (C : Array Value) (eC : C = mapC (p : Int) U) :
    Calls Try.prog 15 #[.agg C, .int .i64 za, .int .i64 zn] w fun e w' => e = .returned (.tuple #[.agg Try.zeroCells27, .int .i64 1]) ∧ Below w.heap.size w w' := by
  have hp8 : 8 ≤ p := by have := okU.1; omega
  have hp5 : p ≤ 512 := by have := okU.2.1; omega
  have hS : Hid (some 513 = some C.size) := Lib.hid (by rw [eC, size_mapC hU])
  obtain ⟨W, eW⟩ : ∃ W, W = (w.alloc (.cells C 27)).alloc (.cells Try.zeroCells27 27) := ⟨_, rfl⟩
  have HM : Hid (MapAt W w.heap.size 27 (p : Int) U) := Lib.hid (by rw [eW, eC]; exact (MapAt.new w _ _ U).alloc _)
  have HBL : Hid (Below w.heap.size w W) := Lib.hid (by rw [eW]; exact ((Below.refl _ _).alloc (Nat.le_refl _) _).alloc (by simp) _)
  have HZ : Hid (W.heap[w.heap.size + 1]? = some (.cells Try.zeroCells27 27 (0, 0))) := Lib.hid (by rw [eW]; exact heap_alloc2_new _ _ _)
  have hg1 : Hid (W.heap[w.heap.size]? = some (.cells C 27 (0, 0))) := Lib.hid (by rw [eC]; exact HM.out)
  have hWs : Hid (W.heap.size = w.heap.size + 2) := Lib.hid (by rw [eW]; simp)
  have HRG := Lib.hid (fun W => right_rf (p : Int) U hU W C eC true (by simp [okU]))
  have hcase : zn < 0 ∨ (0 ≤ zn ∧ za < 2) ∨ (0 ≤ zn ∧ 2 ≤ za ∧ 512 < zn) ∨ (0 ≤ zn ∧ 2 ≤ za ∧ zn ≤ 512 ∧ (p : Int) - zn < za) := by omega
  have EW := Lib.hid eW.symm
  clear eW eC hbad okU
  rcases hcase with h1 | ⟨h1, h2⟩ | ⟨h1, h2, h3⟩ | ⟨h1, h2, h3, h4⟩
  · have d1 : decide (zn < 0) = true := by simpa using h1
    go_enter Try.func15, Try.ntmps15
    go_upto_region 1 with fail
    rw [EW.out]
    go_wp2_with (first
      | (refine wpList_load_row rfl 27 (.tmp 3) rfl w.heap.size rfl 27 C (0, 0) _ hg1.out Try.underlying27 rfl (infoMapR.trans hS.out) ?_)
      | (go_at_call 24; (refine (HRG.out _).mono ?_); rintro e w1 ⟨rfl, hb1⟩; have HZ1 := Lib.hid ((hb1.block _ (by rw [hWs.out]; omega)).trans HZ.out); have k0 := (HM.out.below hb1 HM.out.lt).c0)
      | (refine wpList_store_row rfl 27 (.tmp 6) (.tmp 33) rfl (w.heap.size + 1) Try.zeroCells27 rfl rfl 27 Try.zeroCells27 HZ1.out infoZeroR rfl one_zeroMapR ?_))
    refine bodyPost_ret (v := .tuple #[.agg Try.zeroCells27, .int .i64 1]) (results_cell_tmpB (p := 6) (u := 7) (ty := 27) rfl _ _ (w.heap.size + 1) 27 Try.zeroCells27 (0, 0) _ rfl (setRow_heap _ _ _ _ _ _ HZ1.out) Try.underlying27 rfl infoZeroR) rfl ⟨rfl, below_setRow (HBL.out.trans (hb1.mono HBL.out.size)) (by omega) _⟩
  · have d1 : decide (zn < 0) = false := by simpa using h1
    have d2 : decide (za < 2) = true := by simpa using h2
    go_enter Try.func15, Try.ntmps15
    go_upto_region 1 with fail
    rw [EW.out]
    go_wp2_with (first
      | (refine wpList_load_row rfl 27 (.tmp 3) rfl w.heap.size rfl 27 C (0, 0) _ hg1.out Try.underlying27 rfl (infoMapR.trans hS.out) ?_)
      | (go_at_call 24; (refine (HRG.out _).mono ?_); rintro e w1 ⟨rfl, hb1⟩; have HZ1 := Lib.hid ((hb1.block _ (by rw [hWs.out]; omega)).trans HZ.out); have k0 := (HM.out.below hb1 HM.out.lt).c0)
      | (refine wpList_store_row rfl 27 (.tmp 6) (.tmp 33) rfl (w.heap.size + 1) Try.zeroCells27 rfl rfl 27 Try.zeroCells27 HZ1.out infoZeroR rfl one_zeroMapR ?_))
    refine bodyPost_ret (v := .tuple #[.agg Try.zeroCells27, .int .i64 1]) (results_cell_tmpB (p := 6) (u := 7) (ty := 27) rfl _ _ (w.heap.size + 1) 27 Try.zeroCells27 (0, 0) _ rfl (setRow_heap _ _ _ _ _ _ HZ1.out) Try.underlying27 rfl infoZeroR) rfl ⟨rfl, below_setRow (HBL.out.trans (hb1.mono HBL.out.size)) (by omega) _⟩
  · have d1 : decide (zn < 0) = false := by simpa using h1
    have d2 : decide (za < 2) = false := by simpa using h2
    have d3 : decide (512 < zn) = true := by simpa using h3
    go_enter Try.func15, Try.ntmps15
    go_upto_region 1 with fail
    rw [EW.out]
    go_wp2_with (first
      | (refine wpList_load_row rfl 27 (.tmp 3) rfl w.heap.size rfl 27 C (0, 0) _ hg1.out Try.underlying27 rfl (infoMapR.trans hS.out) ?_)
      | (go_at_call 24; (refine (HRG.out _).mono ?_); rintro e w1 ⟨rfl, hb1⟩; have HZ1 := Lib.hid ((hb1.block _ (by rw [hWs.out]; omega)).trans HZ.out); have k0 := (HM.out.below hb1 HM.out.lt).c0)
      | (refine wpList_store_row rfl 27 (.tmp 6) (.tmp 33) rfl (w.heap.size + 1) Try.zeroCells27 rfl rfl 27 Try.zeroCells27 HZ1.out infoZeroR rfl one_zeroMapR ?_))
    refine bodyPost_ret (v := .tuple #[.agg Try.zeroCells27, .int .i64 1]) (results_cell_tmpB (p := 6) (u := 7) (ty := 27) rfl _ _ (w.heap.size + 1) 27 Try.zeroCells27 (0, 0) _ rfl (setRow_heap _ _ _ _ _ _ HZ1.out) Try.underlying27 rfl infoZeroR) rfl ⟨rfl, below_setRow (HBL.out.trans (hb1.mono HBL.out.size)) (by omega) _⟩
  · have d1 : decide (zn < 0) = false := by simpa using h1
    have d2 : decide (za < 2) = false := by simpa using h2
    have d3 : decide (512 < zn) = false := by simpa using h3
    have d4 : decide ((p : Int) - zn < za) = true := by simpa using h4
    go_enter Try.func15, Try.ntmps15
    go_upto_region 1 with fail
    rw [EW.out]
    go_wp2_with (first
      | (refine wpList_load_row rfl 27 (.tmp 3) rfl w.heap.size rfl 27 C (0, 0) _ hg1.out Try.underlying27 rfl (infoMapR.trans hS.out) ?_)
      | (go_at_call 24; (refine (HRG.out _).mono ?_); rintro e w1 ⟨rfl, hb1⟩; have HZ1 := Lib.hid ((hb1.block _ (by rw [hWs.out]; omega)).trans HZ.out); have k0 := (HM.out.below hb1 HM.out.lt).c0)
      | (refine wpList_store_row rfl 27 (.tmp 6) (.tmp 33) rfl (w.heap.size + 1) Try.zeroCells27 rfl rfl 27 Try.zeroCells27 HZ1.out infoZeroR rfl one_zeroMapR ?_))
    refine bodyPost_ret (v := .tuple #[.agg Try.zeroCells27, .int .i64 1]) (results_cell_tmpB (p := 6) (u := 7) (ty := 27) rfl _ _ (w.heap.size + 1) 27 Try.zeroCells27 (0, 0) _ rfl (setRow_heap _ _ _ _ _ _ HZ1.out) Try.underlying27 rfl infoZeroR) rfl ⟨rfl, below_setRow (HBL.out.trans (hb1.mono HBL.out.size)) (by omega) _⟩

set_option maxHeartbeats 2000000 in
set_option maxRecDepth 100000 in
theorem rgive_bm (p : Nat) (U : List Bool) (hU : U.length = 512) (okU : okM (p : Int) U) (a n : Nat) (ha : 2 ≤ a) (han : a + n ≤ p) (w : World) (C : Array Value) (eC : C = mapC (p : Int) U) :
    Calls Try.prog 15 #[.agg C, .int .i64 (a : Int), .int .i64 (n : Int)] w fun e w' =>
      (((∀ j, j < n → U.getD (a + j) false = true) ∧ e = .returned (.tuple #[.agg (mapC (p : Int) (markN U a false n)), .int .i64 0])) ∨ ((∃ j, j < n ∧ U.getD (a + j) false = false) ∧ e = .returned (.tuple #[.agg Try.zeroCells27, .int .i64 10]))) ∧ Below w.heap.size w w' := by
  have hp : p ≤ 512 := by have := okU.2.1; omega
  have d1 : decide ((n : Int) < 0) = false := by simp
  have d2 : decide ((a : Int) < 2) = false := by simp; omega
  have d4 : decide ((p : Int) - (n : Int) < (a : Int)) = false := by simp; omega
  have d3 : decide (512 < (n : Int)) = false := by simp; omega
  have d3' : decide (512 < n) = false := by simp; omega
  have hS : Hid (some 513 = some C.size) := Lib.hid (by rw [eC, size_mapC hU])
  obtain ⟨W, eW⟩ : ∃ W, W = (w.alloc (.cells C 27)).alloc (.cells Try.zeroCells27 27) := ⟨_, rfl⟩
  have HM : Hid (MapAt W w.heap.size 27 (p : Int) U) := Lib.hid (by rw [eW, eC]; exact (MapAt.new w _ _ U).alloc _)
  have HBL : Hid (Below w.heap.size w W) := Lib.hid (by rw [eW]; exact ((Below.refl _ _).alloc (Nat.le_refl _) _).alloc (by simp) _)
  have HZ : Hid (W.heap[w.heap.size + 1]? = some (.cells Try.zeroCells27 27 (0, 0))) := Lib.hid (by rw [eW]; exact heap_alloc2_new _ _ _)
  have hg1 : Hid (W.heap[w.heap.size]? = some (.cells C 27 (0, 0))) := Lib.hid (by rw [eC]; exact HM.out)
  have HRG := Lib.hid (fun W => right_rf (p : Int) U hU W C eC true (by simp [okU]))
  have hWs : Hid (W.heap.size = w.heap.size + 2) := Lib.hid (by rw [eW]; simp)
  have EW := Lib.hid eW.symm
  have HU := Lib.hid hU
  clear eC okU eW hU
  go_enter Try.func15, Try.ntmps15
  go_upto_region 1 with fail
  rw [EW.out]
  go_upto_region 4 with (first
    | (refine wpList_load_row rfl 27 (.tmp 3) rfl w.heap.size rfl 27 C (0, 0) _ hg1.out Try.underlying27 rfl (infoMapR.trans hS.out) ?_)
    | (go_at_call 24; (refine (HRG.out _).mono ?_); rintro e w1 ⟨rfl, hb1⟩; have M1 := Lib.hid (HM.out.below hb1 HM.out.lt); have k0 := M1.out.c0))
  have hbA : Below w.heap.size w w1 := HBL.out.trans (hb1.mono HBL.out.size)
  have HBA := Lib.hid hbA
  have hs1 : w.heap.size + 2 ≤ w1.heap.size := by have := hb1.size; rw [hWs.out] at this; exact this
  have HZ1 := Lib.hid ((hb1.block _ (by rw [hWs.out]; omega)).trans HZ.out)
  have HG1 := Lib.hid ((hb1.block _ (by rw [hWs.out]; omega)).trans hg1.out)
  clear hb1 hbA k0
  go_loop [8] (fun i => ∃ k : Nat, k ≤ n ∧ i = .int .i64 k ∧ Hid (∀ j, j < k → U.getD (a + j) false = true)) (fun i => n - (intOf i).toNat)
  case atStart => exact ⟨0, by omega, rfl, Lib.hid (fun j h => by omega)⟩
  case round =>
    obtain ⟨k, hk, rfl, hall⟩ := hrel
    by_cases hlt : k < n
    · have hc := M1.out.cs (a + k) (by rw [HU.out]; omega)
      obtain ⟨u, hu⟩ : ∃ u, u = U.getD (a + k) false := ⟨_, rfl⟩
      rw [← hu] at hc
      have HUU := Lib.hid hu
      have hak : (a : Int) + (k : Int) < 512 := by omega
      clear hu
      cases u
      · go_wp2_with (refine wpList_store_row rfl 27 (.tmp 6) (.tmp 46) rfl (w.heap.size + 1) Try.zeroCells27 rfl rfl 27 Try.zeroCells27 HZ1.out infoZeroR rfl one_zeroMapR ?_)
        refine bodyPost_ret (v := .tuple #[.agg Try.zeroCells27, .int .i64 10]) (results_cell_tmpB (p := 6) (u := 7) (ty := 27) rfl _ _ (w.heap.size + 1) 27 Try.zeroCells27 (0, 0) _ rfl (setRow_heap _ _ Try.zeroCells27 _ _ _ HZ1.out) Try.underlying27 rfl infoZeroR) rfl ⟨.inr ⟨⟨k, hlt, HUU.out.symm⟩, rfl⟩, ?_⟩
        exact below_setRow HBA.out (by omega) _
      · go_wp2_with fail
        go_round
        case rel =>
          refine ⟨k + 1, by omega, by go_num, Lib.hid (fun j hj => ?_)⟩
          rcases Nat.lt_or_ge j k with h | h
          · exact hall.out j h
          · obtain rfl : j = k := by omega
            exact HUU.out.symm
        case measure => simp [intOf]; omega
    · obtain rfl : k = n := by omega
      go_wp2_with fail
      go_loopw [9] (fun i wx => ∃ m : Nat, m ≤ k ∧ i = .int .i64 m ∧ Hid (MapAt wx w.heap.size 27 (p : Int) (markN U a false m)) ∧ Hid (wx.heap[w.heap.size + 1]? = some (.cells Try.zeroCells27 27 (0, 0))) ∧ Hid (Below w.heap.size w wx)) (fun i _ => k - (intOf i).toNat)
      case atStart => exact ⟨0, by omega, rfl, M1, HZ1, HBA⟩
      case round =>
        obtain ⟨m, hm, rfl, HMX, HZX, HBX⟩ := hrel
        by_cases hmn : m < k
        · have hc := HMX.out.cs (a + m) (by rw [length_markN, HU.out]; omega)
          have hf := HMX.out.fr (1 + (a + m))
          have hkm : (a : Int) + (m : Int) < 512 := by omega
          go_wp2_with fail
          go_roundw
          case rel => exact ⟨m + 1, by omega, by go_num, Lib.hid (HMX.out.set (a + m) false), Lib.hid ((heap_setCell_other _ ⟨w.heap.size, 1 + (a + m), none⟩ (w.heap.size + 1) _ (by show w.heap.size + 1 ≠ w.heap.size; omega)).trans HZX.out), Lib.hid (below_setCM HBX.out (Nat.le_refl _))⟩
          case measure => simp [intOf]; omega
        · obtain rfl : m = k := by omega
          obtain ⟨C', eC'⟩ : ∃ C', C' = mapC (p : Int) (markN U a false m) := ⟨_, rfl⟩
          have hS' : Hid (some 513 = some C'.size) := Lib.hid (by rw [eC', size_mapC (by rw [length_markN, HU.out])])
          have hO' : Hid (C'.all (·.oneCell') = true) := Lib.hid (by rw [eC']; exact one_mapC _ _)
          have HG' : Hid (wr.heap[w.heap.size]? = some (.cells C' 27 (0, 0))) := Lib.hid (by rw [eC']; exact HMX.out)
          have EC' := Lib.hid eC'
          clear eC'
          go_wp2_with (first
            | (refine wpList_load_row rfl 27 (.tmp 3) rfl w.heap.size rfl 27 C' (0, 0) _ HG'.out Try.underlying27 rfl (infoMapR.trans hS'.out) ?_)
            | (refine wpList_store_row rfl 27 (.tmp 6) (.tmp 57) rfl (w.heap.size + 1) C' rfl rfl 27 Try.zeroCells27 HZX.out (infoMapR.trans hS'.out) (size_zeroMapR.trans (Option.some.inj hS'.out)) hO'.out ?_))
          refine bodyPost_ret (v := .tuple #[.agg C', .int .i64 0]) (results_cell_tmpB (p := 6) (u := 7) (ty := 27) rfl _ _ (w.heap.size + 1) 27 C' (0, 0) _ rfl (setRow_heap _ _ Try.zeroCells27 _ _ _ HZX.out) Try.underlying27 rfl (infoMapR.trans hS'.out)) rfl ⟨.inl ⟨hall.out, by rw [EC'.out]⟩, ?_⟩
          exact below_setRow HBX.out (by omega) _
end Go.Proofs.Ytobfepkeikecoaa
