/- The two turns between a map and the reference's. -/
import Derived.Test.YtobfepkeikecoaaBmE
import Derived.Great.BuildSlice
namespace Go.Proofs.Ytobfepkeikecoaa
open Go.RowKit PageM
set_option linter.unusedVariables false

theorem zeroMapR : Try.zeroCells27 = mapC 0 (List.replicate 512 false) := by kernel_rfl
theorem size_zeroMapR : (Try.zeroCells27).size = 513 := by kernel_rfl

theorem fold_map (p : Int) (U : List Bool) (hU : U.length = 512) (Z : Array Value) (hZ : Z.size = 513) :
    List.foldl (fun cs (x : Value × Nat) => cs.setIfInBounds (1 + x.snd) x.fst) (Z.setIfInBounds 0 (Value.int .i64 p)) (List.map Value.bool U).zipIdx = mapC p U := by
  obtain ⟨L, hL⟩ : ∃ L, L = U.map Value.bool := ⟨_, rfl⟩
  have hm : mapC p U = (Value.int .i64 p :: L).toArray := by rw [hL]; rfl
  rw [hm]
  rw [← hL]
  have hl : L.length = 512 := by rw [hL, List.length_map]; exact hU
  clear hm hL
  obtain ⟨e1, e2⟩ := Great.foldl_set 1 L 0 (Z.setIfInBounds 0 (.int .i64 p))
  apply Array.ext_getElem?
  intro k
  rw [e2 k]
  simp only [Array.size_setIfInBounds]
  rcases Nat.eq_zero_or_pos k with rfl | hk
  · rw [if_neg (by omega)]
    simp [hZ]
  · by_cases h5 : k < 513
    · rw [if_pos (by omega)]
      obtain ⟨j, rfl⟩ : ∃ j, k = j + 1 := ⟨k - 1, by omega⟩
      rw [List.getElem?_toArray, List.getElem?_cons_succ]
      congr 1
    · rw [if_neg (by omega)]
      rw [Array.getElem?_eq_none (by simp; omega), Array.getElem?_eq_none (by simp; omega)]

set_option maxHeartbeats 1000000 in
set_option maxRecDepth 100000 in
theorem to_bm (p : Int) (U : List Bool) (hU : U.length = 512) (w : World) (C : Array Value) (eC : C = mapC p U) :
    Calls Try.prog 23 #[.agg C] w fun e w' => e = .returned (.agg C) ∧ Below w.heap.size w w' := by
  have hm0 : MapAt ((w.alloc (.cells C 27)).alloc (.cells Try.zeroCells25 25)) w.heap.size 27 p U := by rw [eC]; exact (MapAt.new w _ p U).alloc _
  have c0 := hm0.c0
  have HR := Lib.hid hm0.range
  have hL : Hid (some 512 = some (U.map Value.bool).length) := Lib.hid (by simp [hU])
  have IA : Hid ((Try.prog.info? 23).map (·.size) = some 512) := Lib.hid (by kernel_rfl)
  have hb1 : Below w.heap.size w ((w.alloc (.cells C 27)).alloc (.cells Try.zeroCells25 25)) := ((Below.refl _ _).alloc (Nat.le_refl _) _).alloc (by simp) _
  have HB1 := Lib.hid hb1
  have HZ : Hid (((w.alloc (.cells C 27)).alloc (.cells Try.zeroCells25 25)).heap[w.heap.size + 1]? = some (.cells Try.zeroCells25 25 (0, 0))) := Lib.hid (heap_alloc2_new _ _ _)
  have HFO : Hid (List.foldl (fun cs (x : Value × Nat) => cs.setIfInBounds (1 + x.snd) x.fst) ((Try.zeroCells25).setIfInBounds 0 (Value.int .i64 p)) (List.map Value.bool U).zipIdx = C) := Lib.hid (by rw [eC]; exact fold_map p U hU _ size_zeroMap)
  have hS : Hid (some 513 = some C.size) := Lib.hid (by rw [eC, size_mapC hU])
  have hO : Hid (C.all (·.oneCell') = true) := Lib.hid (by rw [eC]; exact one_mapC _ _)
  clear eC hm0 hb1
  go_enter Try.func23, Try.ntmps23
  go_wp2_with (first
    | (refine wpList_load_mid rfl 23 _ rfl w.heap.size 1 rfl _ _ HR.out Try.underlying23 rfl (IA.out.trans hL.out) ?_)
    | (rw [HFO.out]; refine wpList_store_row rfl 25 (.tmp 2) (.tmp 7) rfl (w.heap.size + 1) C rfl rfl 25 Try.zeroCells25 HZ.out (infoMap.trans hS.out) (size_zeroMap.trans (Option.some.inj hS.out)) hO.out ?_))
  exact bodyPost_ret (v := .agg C) (results_cell_row (p := 2) (ty := 25) rfl _ _ (w.heap.size + 1) 25 C (0, 0) _ rfl (setRow_heap _ _ _ _ _ _ HZ.out) Try.underlying25 rfl (infoMap.trans hS.out)) rfl ⟨rfl, below_setRow HB1.out (Nat.le_succ _) _⟩
end Go.Proofs.Ytobfepkeikecoaa
