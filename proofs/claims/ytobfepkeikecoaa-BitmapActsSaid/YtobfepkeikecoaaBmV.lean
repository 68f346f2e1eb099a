/- The reference's Take of a map. -/
import Derived.Test.YtobfepkeikecoaaBmY
namespace Go.Proofs.Ytobfepkeikecoaa
open Go.RowKit PageM
set_option linter.unusedVariables false

theorem infoZeroR : (Try.prog.info? 27).map (·.size) = some (Try.zeroCells27).size := infoMapR.trans (congrArg some size_zeroMapR.symm)
theorem one_zeroMapR : (Try.zeroCells27).all (·.oneCell') = true := by rw [zeroMapR]; exact one_mapC _ _
theorem fits_two {p : Nat} {U V : List Bool} {n a : Nat} (okU : okM (p : Int) U) (hn1 : 1 ≤ n) (h : fits p U V n a) : 2 ≤ a := by
  rcases Nat.lt_or_ge a 2 with ha | ha
  · exfalso
    have h1 := (h.2 0 (by omega)).1
    have h2 := okU.2.2 a (by omega)
    rw [Nat.add_zero] at h1
    unfold okAt at h2
    rw [h1, decide_eq_true ha] at h2
    simp at h2
  · exact ha

set_option maxHeartbeats 4000000 in
set_option maxRecDepth 100000 in
theorem rtake_bm (p : Nat) (U V : List Bool) (hU : U.length = 512) (hV : V.length = 512) (okU : okM (p : Int) U) (okV : okM (p : Int) V) (n : Nat) (hn1 : 1 ≤ n) (w : World) (C D : Array Value) (eC : C = mapC (p : Int) U) (eD : D = mapC (p : Int) V) :
    Calls Try.prog 13 #[.agg C, .agg D, .int .i64 (n : Int)] w fun e w' =>
      ((∃ a, fits p U V n a ∧ (∀ a', a' < a → ¬ fits p U V n a') ∧ e = .returned (.tuple #[.agg (mapC (p : Int) (markN U a true n)), .int .i64 (a : Int), .int .i64 0])) ∨ ((∀ a, ¬ fits p U V n a) ∧ e = .returned (.tuple #[.agg Try.zeroCells27, .int .i64 0, .int .i64 5]))) ∧ Below w.heap.size w w' := by
  have hp : p ≤ 512 := by have := okU.2.1; omega
  have hp8 : 8 ≤ p := by have := okU.1; omega
  have HNO2 : Hid (∀ a, a < 2 → ¬ fits p U V n a) := Lib.hid (fun a ha h => by have := fits_two okU hn1 h; omega)
  have d1 : decide ((n : Int) < 1) = false := by simp; omega
  have hS : Hid (some 513 = some C.size) := Lib.hid (by rw [eC, size_mapC hU])
  have hT : Hid (some 513 = some D.size) := Lib.hid (by rw [eD, size_mapC hV])
  obtain ⟨W, eW⟩ : ∃ W, W = ((w.alloc (.cells C 27)).alloc (.cells D 27)).alloc (.cells Try.zeroCells27 27) := ⟨_, rfl⟩
  have HBL : Hid (Below w.heap.size w W) := Lib.hid (by rw [eW]; exact (((Below.refl _ _).alloc (Nat.le_refl _) _).alloc (by simp) _).alloc (by simp; omega) _)
  have HZ : Hid (W.heap[w.heap.size + 2]? = some (.cells Try.zeroCells27 27 (0, 0))) := Lib.hid (by rw [eW]; have := heap_alloc_new ((w.alloc (.cells C 27)).alloc (.cells D 27)) (.cells Try.zeroCells27 27); simpa using this)
  have hg1 : Hid (W.heap[w.heap.size]? = some (.cells C 27 (0, 0))) := Lib.hid (by rw [eW]; exact (Below.heap_alloc _ _ _ (by simp; omega)).trans (heap_alloc2_old _ _ _))
  have hg2 : Hid (W.heap[w.heap.size + 1]? = some (.cells D 27 (0, 0))) := Lib.hid (by rw [eW]; exact (Below.heap_alloc _ _ _ (by simp)).trans (heap_alloc2_new _ _ _))
  have hWs : Hid (W.heap.size = w.heap.size + 3) := Lib.hid (by rw [eW]; simp)
  have HRU := Lib.hid (fun W => right_rf (p : Int) U hU W C eC true (by simp [okU]))
  have HRV := Lib.hid (fun W => right_rf (p : Int) V hV W D eD true (by simp [okV]))
  have HFR : Hid (∀ (k : Nat) (W : World) (r : Bool), k ≤ 512 → n ≤ p → r = decide (fits p U V n k) → Calls Try.prog 41 #[.agg C, .agg D, .int .i64 (k : Int), .int .i64 (n : Int)] W fun e w' => e = .returned (.bool r) ∧ Below W.heap.size W w') := Lib.hid (fun k W r hk hnp hr => free_rf p U V hU hV hp p k n k n rfl rfl hn1 (by omega) W C D eC eD r hr)
  have HLM : Hid (∀ a k, some 513 = some (mapC (p : Int) (markN U a true k)).size) := Lib.hid (fun a k => by rw [size_mapC (by rw [length_markN, hU])])
  have EC := Lib.hid eC
  have ED := Lib.hid eD
  have EW := Lib.hid eW.symm
  have HU := Lib.hid hU
  clear eW eC eD okU okV hU hV
  go_enter Try.func13, Try.ntmps13
  go_upto_region 1 with fail
  rw [EW.out]
  go_wp2_with (first
    | (refine wpList_load_row rfl 27 (.tmp 3) rfl w.heap.size rfl 27 C (0, 0) _ hg1.out Try.underlying27 rfl (infoMapR.trans hS.out) ?_)
    | (go_at_call 24; (refine (HRU.out _).mono ?_); rintro e w1 ⟨rfl, hb1⟩; have HG2 := Lib.hid ((hb1.block _ (by rw [hWs.out]; omega)).trans hg2.out)))
  refine wp_load_row 27 (.tmp 4) rfl (w.heap.size + 1) rfl 27 D (0, 0) _ HG2.out Try.underlying27 rfl (infoMapR.trans hT.out) ?_
  rename_i K2 hK2
  refine hK2 _ _ ?_
  clear hK2
  simp only [Act.put, List.setIfInBounds_toArray, List.set_cons_zero, List.set_cons_succ]
  go_upto_region 4 with (go_at_call 24; (refine (HRV.out _).mono ?_); rintro e w2 ⟨rfl, hb2⟩; have HB2 := Lib.hid ((HBL.out.trans (hb1.mono HBL.out.size)).trans (hb2.mono (HBL.out.trans (hb1.mono HBL.out.size)).size)); have hg31 := (hb2.block w.heap.size (by have := hb1.size; rw [hWs.out] at this; omega)).trans ((hb1.block _ (by rw [hWs.out]; omega)).trans hg1.out); have hg32 := (hb2.block (w.heap.size + 1) (by have := hb1.size; rw [hWs.out] at this; omega)).trans HG2.out; have hz3 := (hb2.block (w.heap.size + 2) (by have := hb1.size; rw [hWs.out] at this; omega)).trans ((hb1.block _ (by rw [hWs.out]; omega)).trans HZ.out); have HS3 : Hid (w.heap.size + 3 ≤ w2.heap.size) := Lib.hid (by have h1 := hb1.size; have h2 := hb2.size; rw [hWs.out] at h1; omega); have k1 : w2.cell? ⟨w.heap.size, 0, none⟩ = some (.int .i64 (p : Int)) := (show MapAt w2 w.heap.size 27 (p : Int) U by unfold MapAt; rw [← EC.out]; exact hg31).c0; have k2 : w2.cell? ⟨w.heap.size + 1, 0, none⟩ = some (.int .i64 (p : Int)) := (show MapAt w2 (w.heap.size + 1) 27 (p : Int) V by unfold MapAt; rw [← ED.out]; exact hg32).c0)
  have HG31 := Lib.hid hg31
  have HG32 := Lib.hid hg32
  have HZ3 := Lib.hid hz3
  clear hg31 hg32 hz3 k1 k2 hb1 hb2 HG2 hg1 hg2 HZ HBL
  go_loopw [9] (fun i wr => ∃ k : Nat, 2 ≤ k ∧ k ≤ p ∧ i = .int .i64 k ∧ Hid (∀ a, a < k → ¬ fits p U V n a) ∧ Hid (Below w2.heap.size w2 wr)) (fun i _ => p - (intOf i).toNat)
  case atStart => exact ⟨2, by omega, by omega, rfl, HNO2, Lib.hid (Below.refl _ _)⟩
  case round =>
    obtain ⟨k, hk2, hk, rfl, HNO, HBW⟩ := hrel
    have hsw := HBW.out.size
    have HM : Hid (MapAt wr w.heap.size 27 (p : Int) U) := Lib.hid (by unfold MapAt; rw [← EC.out]; exact (HBW.out.block _ (by have := HS3.out; omega)).trans HG31.out)
    have HG1 : Hid (wr.heap[w.heap.size]? = some (.cells C 27 (0, 0))) := Lib.hid ((HBW.out.block _ (by have := HS3.out; omega)).trans HG31.out)
    have HG2 : Hid (wr.heap[w.heap.size + 1]? = some (.cells D 27 (0, 0))) := Lib.hid ((HBW.out.block _ (by have := HS3.out; omega)).trans HG32.out)
    have HZ4 : Hid (wr.heap[w.heap.size + 2]? = some (.cells Try.zeroCells27 27 (0, 0))) := Lib.hid ((HBW.out.block _ (by have := HS3.out; omega)).trans HZ3.out)
    have k0 := HM.out.c0
    by_cases hlt : k < p
    · by_cases hnp : n ≤ p
      · have d2 : decide ((n : Int) ≤ (p : Int)) = true := by simp; omega
        have d2' : decide (n ≤ p) = true := by simp; omega
        obtain ⟨r, hr⟩ : ∃ r, r = decide (fits p U V n k) := ⟨_, rfl⟩
        have HR := Lib.hid hr
        clear hr
        go_wp2_with fail
        refine wp_load_row 27 (.tmp 3) rfl w.heap.size rfl 27 C (0, 0) _ HG1.out Try.underlying27 rfl (infoMapR.trans hS.out) ?_
        rename_i K2 hK2
        refine hK2 _ _ ?_
        clear hK2
        simp only [Act.put, List.setIfInBounds_toArray, List.set_cons_zero, List.set_cons_succ]
        go_wp2_with fail
        refine wp_load_row 27 (.tmp 4) rfl (w.heap.size + 1) rfl 27 D (0, 0) _ HG2.out Try.underlying27 rfl (infoMapR.trans hT.out) ?_
        rename_i K2 hK2
        refine hK2 _ _ ?_
        clear hK2
        simp only [Act.put, List.setIfInBounds_toArray, List.set_cons_zero, List.set_cons_succ]
        cases r
        · go_wp2_with (go_at_call 41; (refine (HFR.out k _ false (by omega) hnp HR.out).mono ?_); rintro e w5 ⟨rfl, hb5⟩)
          go_roundw
          case rel =>
            refine ⟨k + 1, by omega, by omega, by go_num, Lib.hid (fun a ha h => ?_), Lib.hid (HBW.out.trans (hb5.mono hsw))⟩
            rcases Nat.lt_or_ge a k with h1 | h1
            · exact HNO.out a h1 h
            · obtain rfl : a = k := by omega
              exact of_decide_eq_false HR.out.symm h
          case measure => simp [intOf]; omega
        · have hfit : fits p U V n k := of_decide_eq_true HR.out.symm
          have hkn := hfit.1
          have HFIT := Lib.hid hfit
          clear hfit
          go_upto_region 8 with (go_at_call 41; (refine (HFR.out k _ true (by omega) hnp HR.out).mono ?_); rintro e w5 ⟨rfl, hb5⟩; have HB5 := Lib.hid (HB2.out.trans ((HBW.out.trans (hb5.mono hsw)).mono (by have := HS3.out; omega))); have hl5 := hb5.size; have HM5 := Lib.hid (HM.out.below hb5 HM.out.lt); have HZ5 := Lib.hid ((hb5.block (w.heap.size + 2) (by have := HS3.out; omega)).trans HZ4.out))
          go_loopw [10] (fun i wx => ∃ m : Nat, m ≤ n ∧ i = .int .i64 m ∧ Hid (MapAt wx w.heap.size 27 (p : Int) (markN U k true m)) ∧ Hid (wx.heap[w.heap.size + 2]? = some (.cells Try.zeroCells27 27 (0, 0))) ∧ Hid (Below w.heap.size w wx)) (fun i _ => n - (intOf i).toNat)
          case atStart => exact ⟨0, by omega, rfl, HM5, HZ5, HB5⟩
          case round =>
            obtain ⟨m, hm, rfl, HMX, HZX, HBX⟩ := hrel
            by_cases hmn : m < n
            · have hc := HMX.out.cs (k + m) (by rw [length_markN, HU.out]; omega)
              have hf := HMX.out.fr (1 + (k + m))
              have hkm : (k : Int) + (m : Int) < 512 := by omega
              go_wp2_with fail
              go_roundw
              case rel => exact ⟨m + 1, by omega, by go_num, Lib.hid (HMX.out.set (k + m) true), Lib.hid ((heap_setCell_other _ ⟨w.heap.size, 1 + (k + m), none⟩ (w.heap.size + 2) _ (by show w.heap.size + 2 ≠ w.heap.size; omega)).trans HZX.out), Lib.hid (below_setCM HBX.out (Nat.le_refl _))⟩
              case measure => simp [intOf]; omega
            · obtain rfl : m = n := by omega
              obtain ⟨C', eC'⟩ : ∃ C', C' = mapC (p : Int) (markN U k true m) := ⟨_, rfl⟩
              have hS' : Hid (some 513 = some C'.size) := Lib.hid (by rw [eC']; exact HLM.out k m)
              have hO' : Hid (C'.all (·.oneCell') = true) := Lib.hid (by rw [eC']; exact one_mapC _ _)
              have HG' : Hid (wr.heap[w.heap.size]? = some (.cells C' 27 (0, 0))) := Lib.hid (by rw [eC']; exact HMX.out)
              have EC' := Lib.hid eC'
              clear eC'
              go_wp2_with (first
                | (refine wpList_load_row rfl 27 (.tmp 3) rfl w.heap.size rfl 27 C' (0, 0) _ HG'.out Try.underlying27 rfl (infoMapR.trans hS'.out) ?_)
                | (refine wpList_store_row rfl 27 (.tmp 6) (.tmp 58) rfl (w.heap.size + 2) C' rfl rfl 27 Try.zeroCells27 HZX.out (infoMapR.trans hS'.out) (size_zeroMapR.trans (Option.some.inj hS'.out)) hO'.out ?_))
              refine bodyPost_ret (v := .tuple #[.agg C', .int .i64 (k : Int), .int .i64 0]) (results_cell_tmp3 (p := 6) (u := 7) (v := 8) (ty := 27) rfl _ _ (w.heap.size + 2) 27 C' (0, 0) _ rfl (setRow_heap _ _ Try.zeroCells27 _ _ _ HZX.out) Try.underlying27 rfl (infoMapR.trans hS'.out)) rfl ⟨.inl ⟨k, HFIT.out, HNO.out, by rw [EC'.out]⟩, ?_⟩
              exact below_setRow HBX.out (by omega) _
      · have d2 : decide ((n : Int) ≤ (p : Int)) = false := by simp; omega
        have d2' : decide (n ≤ p) = false := by simp; omega
        have HNF : Hid (¬ fits p U V n k) := Lib.hid (fun h => by have := h.1; omega)
        go_wp2_with fail
        go_roundw
        case rel =>
          refine ⟨k + 1, by omega, by omega, by go_num, Lib.hid (fun a ha h => ?_), HBW⟩
          rcases Nat.lt_or_ge a k with h1 | h1
          · exact HNO.out a h1 h
          · obtain rfl : a = k := by omega
            exact HNF.out h
        case measure => simp [intOf]; omega
    · obtain rfl : k = p := by omega
      go_wp2_with (refine wpList_store_row rfl 27 (.tmp 6) (.tmp 60) rfl (w.heap.size + 2) Try.zeroCells27 rfl rfl 27 Try.zeroCells27 HZ4.out infoZeroR rfl one_zeroMapR ?_)
      refine bodyPost_ret (v := .tuple #[.agg Try.zeroCells27, .int .i64 0, .int .i64 5]) (results_cell_tmp3 (p := 6) (u := 7) (v := 8) (ty := 27) rfl _ _ (w.heap.size + 2) 27 Try.zeroCells27 (0, 0) _ rfl (setRow_heap _ _ Try.zeroCells27 _ _ _ HZ4.out) Try.underlying27 rfl infoZeroR) rfl ⟨.inr ⟨fun a h => ?_, rfl⟩, ?_⟩
      · rcases Nat.lt_or_ge a k with h1 | h1
        · exact HNO.out a h1 h
        · have := h.1
          omega
      · exact below_setRow (HB2.out.trans (HBW.out.mono (by have := HS3.out; omega))) (by omega) _
end Go.Proofs.Ytobfepkeikecoaa
