/- New, together, Free, Run of package bitmap. -/
import Derived.Test.YtobfepkeikecoaaBmI
namespace Go.Proofs.Ytobfepkeikecoaa
open Go.RowKit
set_option linter.unusedVariables false

theorem zeroMap : Try.zeroCells25 = mapC 0 (List.replicate 512 false) := by kernel_rfl

theorem right_bmC (p : Int) (U : List Bool) (hU : U.length = 512) (w : World) (C : Array Value) (eC : C = mapC p U) (r : Bool) (hr : r = decide (okM p U)) :
    Calls Try.prog 21 #[.agg C] w fun e w' => e = .returned (.bool r) ∧ Below w.heap.size w w' := by
  rw [eC, hr]
  exact right_bm p U hU w

set_option maxHeartbeats 1000000 in
set_option maxRecDepth 100000 in
theorem together_bm (p q : Int) (U V : List Bool) (hU : U.length = 512) (hV : V.length = 512) (w : World) (C D : Array Value) (eC : C = mapC p U) (eD : D = mapC q V) (r : Bool) (hr : r = (decide (okM p U) && decide (okM q V) && decide (p = q))) :
    Calls Try.prog 40 #[.agg C, .agg D] w fun e w' => e = .returned (.bool r) ∧ Below w.heap.size w w' := by
  have EC := Lib.hid eC
  have ED := Lib.hid eD
  have HU := Lib.hid hU
  have HV := Lib.hid hV
  have hS : Hid (some 513 = some C.size) := Lib.hid (by rw [eC, size_mapC hU])
  have hT : Hid (some 513 = some D.size) := Lib.hid (by rw [eD, size_mapC hV])
  obtain ⟨W, eW⟩ : ∃ W, W = (w.alloc (.cells C 25)).alloc (.cells D 25) := ⟨_, rfl⟩
  have hbW : Below w.heap.size w W := by rw [eW]; exact ((Below.refl _ _).alloc (Nat.le_refl _) _).alloc (by simp) _
  have hm : MapAt W w.heap.size 25 p U := by rw [eW, eC]; exact (MapAt.new w _ p U).alloc _
  have hm2 : MapAt W (w.heap.size + 1) 25 q V := by rw [eW, eD]; have := MapAt.new (w.alloc (.cells C 25)) 25 q V; simpa using this
  have hWs : W.heap.size = w.heap.size + 2 := by rw [eW]; simp
  have EW := Lib.hid eW.symm
  have HR := Lib.hid hr
  clear eC eD hU hV eW hr
  obtain ⟨x, hx⟩ : ∃ x, x = decide (okM p U) := ⟨_, rfl⟩
  obtain ⟨y, hy⟩ : ∃ y, y = decide (okM q V) := ⟨_, rfl⟩
  have HX := Lib.hid hx
  have HY := Lib.hid hy
  have HM := Lib.hid hm
  have HM2 := Lib.hid hm2
  have HWS := Lib.hid hWs
  clear hx hy hm hm2 hWs
  have hg1 : Hid (W.heap[w.heap.size]? = some (.cells C 25 (0, 0))) := Lib.hid (by rw [EC.out]; exact HM.out)
  have hg2 : Hid (W.heap[w.heap.size + 1]? = some (.cells D 25 (0, 0))) := Lib.hid (by rw [ED.out]; exact HM2.out)
  obtain ⟨z, hz⟩ : ∃ z, z = decide (p = q) := ⟨_, rfl⟩
  have dpq : (p == q) = z := by rw [hz]; rfl
  have HZ := Lib.hid hz
  clear hz
  have hfin : Hid (r = (x && y && z)) := Lib.hid (by rw [HR.out, HX.out, HY.out, HZ.out])
  cases x
  · go_enter Try.func40, Try.ntmps40
    go_upto_region 1 with fail
    rw [EW.out]
    go_wp2_with (first
      | (refine wpList_load_row rfl 25 (.tmp 2) rfl w.heap.size rfl 25 C (0, 0) _ hg1.out Try.underlying25 rfl (infoMap.trans hS.out) ?_)
      | (go_at_call 21; (refine (right_bmC p U HU.out _ C EC.out _ HX.out).mono ?_); rintro e w1 ⟨rfl, hb1⟩; have hbA := hbW.trans (hb1.mono hbW.size); have hg3 := (hb1.block (w.heap.size + 1) (by rw [HWS.out]; omega)).trans hg2.out; have k1 := (HM.out.below hb1 (by rw [HWS.out]; omega)).c0; have k2 := (HM2.out.below hb1 (by rw [HWS.out]; omega)).c0))
    all_goals go_ret
    all_goals exact ⟨by rw [hfin.out]; rfl, hbA⟩
  · cases y
    all_goals
      go_enter Try.func40, Try.ntmps40
      go_upto_region 1 with fail
      rw [EW.out]
      go_wp2_with (first
        | (refine wpList_load_row rfl 25 (.tmp 2) rfl w.heap.size rfl 25 C (0, 0) _ hg1.out Try.underlying25 rfl (infoMap.trans hS.out) ?_)
        | (go_at_call 21; (refine (right_bmC p U HU.out _ C EC.out _ HX.out).mono ?_); rintro e w1 ⟨rfl, hb1⟩; have hbA := hbW.trans (hb1.mono hbW.size); have hg3 := (hb1.block (w.heap.size + 1) (by rw [HWS.out]; omega)).trans hg2.out; have k1 := (HM.out.below hb1 (by rw [HWS.out]; omega)).c0; have k2 := (HM2.out.below hb1 (by rw [HWS.out]; omega)).c0))
      refine wp_load_row 25 (.tmp 3) rfl (w.heap.size + 1) rfl 25 D (0, 0) _ hg3 Try.underlying25 rfl (infoMap.trans hT.out) ?_
      rename_i K2 hK2
      refine hK2 _ _ ?_
      simp only [Act.put, List.setIfInBounds_toArray, List.set_cons_zero, List.set_cons_succ]
      go_wp2_with (go_at_call 21; (refine (right_bmC q V HV.out _ D ED.out _ HY.out).mono ?_); rintro e w2 ⟨rfl, hb2⟩; have hbA := hbA.trans (hb2.mono hbA.size); have k1 := ((HM.out.below hb1 (by rw [HWS.out]; omega)).below hb2 (by have := hb1.size; rw [HWS.out] at this; omega)).c0; have k2 := ((HM2.out.below hb1 (by rw [HWS.out]; omega)).below hb2 (by have := hb1.size; rw [HWS.out] at this; omega)).c0)
      all_goals go_ret
      all_goals exact ⟨by rw [hfin.out]; simp, hbA⟩
end Go.Proofs.Ytobfepkeikecoaa
