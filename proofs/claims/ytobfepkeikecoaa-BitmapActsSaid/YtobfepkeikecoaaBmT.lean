/- New, Free, Take, Give, Run of package bitmap. -/
import Derived.Test.YtobfepkeikecoaaBmN
import Derived.Test.YtobfepkeikecoaaBtM
namespace Go.Proofs.Ytobfepkeikecoaa
open Go.RowKit
set_option linter.unusedVariables false



theorem built_map (z : Int) : (Try.zeroCells25).setIfInBounds 0 (.int .i64 z) = mapC z (List.replicate 512 false) := by rw [zeroMap]; unfold mapC; rw [List.setIfInBounds_toArray, List.set_cons_zero]

set_option maxHeartbeats 1000000 in
set_option maxRecDepth 100000 in
theorem new_bm (z : Int) (q : Nat) (hq : min (max z 8) 512 = (q : Int)) (w : World) :
    Calls Try.prog 9 #[.int .i64 z] w fun e w' => e = .returned (.agg (mapC (q : Int) map0)) ∧ Below w.heap.size w w' := by
  have HQ := Lib.hid hq
  clear hq
  obtain ⟨C0, eC0⟩ : ∃ C0, C0 = mapC (q : Int) (List.replicate 512 false) := ⟨_, rfl⟩
  have hbu : (Try.zeroCells25).setIfInBounds 0 (.int .i64 (q : Int)) = C0 := by rw [eC0]; exact built_map _
  have HBU := Lib.hid hbu
  have hS0 : Hid (some 513 = some C0.size) := Lib.hid (by rw [eC0, size_mapC List.length_replicate])
  have hO0 : Hid (C0.all (·.oneCell') = true) := Lib.hid (by rw [eC0]; exact one_mapC _ _)
  have EC0 := Lib.hid eC0
  obtain ⟨C1, eC1⟩ : ∃ C1, C1 = mapC (q : Int) map0 := ⟨_, rfl⟩
  have hS1 : Hid (some 513 = some C1.size) := Lib.hid (by rw [eC1, size_mapC length_map0])
  have hO1 : Hid (C1.all (·.oneCell') = true) := Lib.hid (by rw [eC1]; exact one_mapC _ _)
  have EC1 := Lib.hid eC1
  have hmk : Hid (∀ W : World, Calls Try.prog 39 #[.agg C0, .int .i64 0, .int .i64 2, .bool true] W fun e w' => e = .returned (.agg C1) ∧ Below W.heap.size W w') := Lib.hid (fun W => by rw [eC0, eC1]; exact marked_any (q : Int) (List.replicate 512 false) List.length_replicate 0 2 0 2 rfl rfl (by omega) true W)
  rw [← eC1]
  clear hbu eC0 eC1
  go_enter Try.func9, Try.ntmps9
  go_wp2_with (first
    | (rw [HQ.out, HBU.out]; refine wpList_store_row rfl 25 (.tmp 3) (.tmp 7) rfl (w.heap.size + 1) C0 rfl rfl 25 Try.zeroCells25 (heap_alloc2_new _ _ _) (infoMap.trans hS0.out) (size_zeroMap.trans (Option.some.inj hS0.out)) hO0.out ?_)
    | (refine wpList_load_row rfl 25 (.tmp 3) rfl (w.heap.size + 1) rfl 25 C0 (0, 0) _ (setRow_heap _ _ _ _ _ _ (heap_alloc2_new _ _ _)) Try.underlying25 rfl (infoMap.trans hS0.out) ?_)
    | (go_at_call 39; (refine (hmk.out _).mono ?_); rintro e w1 ⟨rfl, hb1⟩)
    | (refine wpList_store_row rfl 25 (.tmp 2) (.tmp 9) rfl w.heap.size C1 rfl rfl 25 Try.zeroCells25 ((hb1.block w.heap.size (by simp; omega)).trans ((setRow_other _ _ _ _ (by omega)).trans (heap_alloc2_old _ _ _))) (infoMap.trans hS1.out) (size_zeroMap.trans (Option.some.inj hS1.out)) hO1.out ?_))
  have hb2 : Below w.heap.size w w1 := ((((Below.refl _ _).alloc (Nat.le_refl _) _).alloc (by simp) _ : Below w.heap.size w ((w.alloc (.cells Try.zeroCells25 25)).alloc (.cells Try.zeroCells25 25)))).trans ((below_setRow (Below.refl _ _) (Nat.le_succ _) C0).trans (hb1.mono (by simp; omega)))
  have hz1 := (hb1.block w.heap.size (by simp; omega)).trans ((setRow_other _ _ _ _ (by omega)).trans (heap_alloc2_old _ _ _))
  exact bodyPost_ret (v := .agg C1) (results_cell_row (p := 2) (ty := 25) rfl _ _ w.heap.size 25 C1 (0, 0) _ rfl (setRow_heap _ _ Try.zeroCells25 _ _ _ hz1) Try.underlying25 rfl (infoMap.trans hS1.out)) rfl ⟨rfl, below_setRow hb2 (Nat.le_refl _) _⟩
end Go.Proofs.Ytobfepkeikecoaa
