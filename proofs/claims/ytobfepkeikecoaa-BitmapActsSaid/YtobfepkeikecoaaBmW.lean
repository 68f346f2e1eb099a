/- The statements' small test takes: it is true in every world. -/
import Derived.Test.YtobfepkeikecoaaBmS
namespace Go.Proofs.Ytobfepkeikecoaa
open Go.RowKit
set_option linter.unusedVariables false

set_option maxHeartbeats 4000000 in
set_option maxRecDepth 100000 in
theorem takes_any (w : World) : Calls Try.prog 10 #[] w fun e w' => e = .returned (.bool true) ∧ Below w.heap.size w w' := by
  obtain ⟨C, eC⟩ : ∃ C, C = mapC ((8 : Nat) : Int) map0 := ⟨_, rfl⟩
  obtain ⟨D, eD⟩ : ∃ D, D = mapC ((8 : Nat) : Int) map6 := ⟨_, rfl⟩
  have hS : Hid (some 513 = some C.size) := Lib.hid (by rw [eC, size_mapC length_map0])
  have hT : Hid (some 513 = some D.size) := Lib.hid (by rw [eD, size_mapC length_map6])
  have hO : Hid (C.all (·.oneCell') = true) := Lib.hid (by rw [eC]; exact one_mapC _ _)
  have hP : Hid (D.all (·.oneCell') = true) := Lib.hid (by rw [eD]; exact one_mapC _ _)
  obtain ⟨Z, eZ⟩ : ∃ Z, Z = Try.zeroCells25 := ⟨_, rfl⟩
  have HSZ : Hid (some 513 = some Z.size) := Lib.hid (by rw [eZ, size_zeroMap])
  have HOZ : Hid (Z.all (·.oneCell') = true) := Lib.hid (by rw [eZ, zeroMap]; exact one_mapC _ _)
  have HNW : Hid (∀ W, Calls Try.prog 9 #[.int .i64 8] W fun e w' => e = .returned (.agg C) ∧ Below W.heap.size W w') := Lib.hid (fun W => by rw [eC]; exact new_bm 8 8 rfl W)
  have HT1 : Hid (∀ W, Calls Try.prog 12 #[.agg C, .agg C, .int .i64 6] W fun e w' => e = .returned (.tuple #[.agg D, .int .i64 2, .int .i64 0]) ∧ Below W.heap.size W w') := Lib.hid (fun W => by rw [eD]; exact take_yes 8 map0 map0 length_map0 length_map0 ok_map0 ok_map0 6 6 rfl (by omega) 2 fits_map0 least_map0 W C C eC eC)
  have HT2 : Hid (∀ W, Calls Try.prog 12 #[.agg D, .agg D, .int .i64 1] W fun e w' => e = .returned (.tuple #[.agg Z, .int .i64 0, .int .i64 5]) ∧ Below W.heap.size W w') := Lib.hid (fun W => by rw [eZ]; exact take_no 8 map6 map6 length_map6 length_map6 ok_map6 ok_map6 1 1 rfl (by omega) none_map6 W D D eD eD)
  have HF1 : Hid (∀ W, Calls Try.prog 22 #[.agg C] W fun e w' => e = .returned (.int .i64 6) ∧ Below W.heap.size W w') := Lib.hid (fun W => free_bm 8 map0 length_map0 (by omega) W C eC 6 free_map0)
  have HF2 : Hid (∀ W, Calls Try.prog 22 #[.agg D] W fun e w' => e = .returned (.int .i64 0) ∧ Below W.heap.size W w') := Lib.hid (fun W => free_bm 8 map6 length_map6 (by omega) W D eD 0 free_map6)
  have HR1 : Hid (∀ W, Calls Try.prog 19 #[.agg C, .agg C] W fun e w' => e = .returned (.int .i64 6) ∧ Below W.heap.size W w') := Lib.hid (fun W => run_bm 8 map0 map0 length_map0 length_map0 ok_map0 ok_map0 W C C eC eC 6 run_map0)
  clear eC eD eZ
  go_enter Try.func10, Try.ntmps10
  go_upto_region 2 with (first | (go_at_call 9; (refine (HNW.out _).mono ?_); rintro e w1 ⟨rfl, hb1⟩) | (refine wpList_store_row rfl 25 (.tmp 1) (.tmp 8) rfl w1.heap.size C rfl rfl 25 Try.zeroCells25 (heap_alloc_new _ _) (infoMap.trans hS.out) (size_zeroMap.trans (Option.some.inj hS.out)) hO.out ?_; rw [World.setRow_alloc_new]; have g1 := Lib.hid (heap_alloc_new w1 (.cells C 25))))
  go_upto_region 3 with (first | (refine wpList_load_row rfl 25 (.tmp 1) rfl w1.heap.size rfl 25 C (0, 0) _ g1.out Try.underlying25 rfl (infoMap.trans hS.out) ?_) | (go_at_call 12; (refine (HT1.out _).mono ?_); rintro e w2 ⟨rfl, hb2⟩) | (refine wpList_store_row rfl 25 (.tmp 2) (.tmp 13) rfl w2.heap.size D rfl rfl 25 Try.zeroCells25 (heap_alloc_new _ _) (infoMap.trans hT.out) (size_zeroMap.trans (Option.some.inj hT.out)) hP.out ?_; rw [World.setRow_alloc_new]; have g2 := Lib.hid (heap_alloc_new w2 (.cells D 25))))
  go_upto_region 4 with (first | (refine wpList_load_row rfl 25 (.tmp 2) rfl w2.heap.size rfl 25 D (0, 0) _ g2.out Try.underlying25 rfl (infoMap.trans hT.out) ?_) | (go_at_call 12; (refine (HT2.out _).mono ?_); rintro e w3 ⟨rfl, hb3⟩) | (refine wpList_store_row rfl 25 (.tmp 5) (.tmp 20) rfl w3.heap.size Z rfl rfl 25 Try.zeroCells25 (heap_alloc_new _ _) (infoMap.trans HSZ.out) (size_zeroMap.trans (Option.some.inj HSZ.out)) HOZ.out ?_; rw [World.setRow_alloc_new]))
  have s1 : w.heap.size ≤ w1.heap.size := by have := hb1.size; exact this
  have s2 : w1.heap.size + 1 ≤ w2.heap.size := by have := hb2.size; simpa using this
  have s3 : w2.heap.size + 1 ≤ w3.heap.size := by have := hb3.size; simpa using this
  obtain ⟨W4, eW⟩ : ∃ W4, W4 = w3.alloc (.cells Z 25) := ⟨_, rfl⟩
  have hbA : Below w.heap.size w W4 := by rw [eW]; exact ((((hb1.alloc s1 _).trans (hb2.mono (by simp; omega))).alloc (by omega) _).trans (hb3.mono (by simp; omega))).alloc (by omega) _
  have HG1 : Hid (W4.heap[w1.heap.size]? = some (.cells C 25 (0, 0))) := Lib.hid (by rw [eW]; exact (heap_alloc_old _ _ (by omega)).trans ((hb3.block _ (by simp; omega)).trans ((heap_alloc_old _ _ (by omega)).trans ((hb2.block _ (by simp)).trans g1.out))))
  have HG2 : Hid (W4.heap[w2.heap.size]? = some (.cells D 25 (0, 0))) := Lib.hid (by rw [eW]; exact (heap_alloc_old _ _ (by omega)).trans ((hb3.block _ (by simp)).trans g2.out))
  rw [← eW]
  have hl1 : w1.heap.size < W4.heap.size := (Array.getElem?_eq_some_iff.1 HG1.out).1
  have hl2 : w2.heap.size < W4.heap.size := (Array.getElem?_eq_some_iff.1 HG2.out).1
  clear hb1 hb2 hb3 g1 g2 s1 s2 s3 eW
  go_wp2_with fail
  refine wp_load_row 25 (.tmp 1) rfl w1.heap.size rfl 25 C (0, 0) _ HG1.out Try.underlying25 rfl (infoMap.trans hS.out) ?_
  rename_i K2 hK2
  refine hK2 _ _ ?_
  clear hK2
  simp only [Act.put, List.setIfInBounds_toArray, List.set_cons_zero, List.set_cons_succ]
  go_wp2_with (go_at_call 22; (refine (HF1.out _).mono ?_); rintro e w5 ⟨rfl, hb5⟩)
  have hbA5 := hbA.trans (hb5.mono hbA.size)
  have HG15 := Lib.hid ((hb5.block _ hl1).trans HG1.out)
  have HG25 := Lib.hid ((hb5.block _ hl2).trans HG2.out)
  refine wp_load_row 25 (.tmp 2) rfl w2.heap.size rfl 25 D (0, 0) _ HG25.out Try.underlying25 rfl (infoMap.trans hT.out) ?_
  rename_i K2 hK2
  refine hK2 _ _ ?_
  clear hK2
  simp only [Act.put, List.setIfInBounds_toArray, List.set_cons_zero, List.set_cons_succ]
  go_wp2_with (go_at_call 22; (refine (HF2.out _).mono ?_); rintro e w6 ⟨rfl, hb6⟩)
  have hbA6 := hbA5.trans (hb6.mono hbA5.size)
  have HG16 := Lib.hid ((hb6.block _ (Nat.lt_of_lt_of_le hl1 hb5.size)).trans HG15.out)
  refine wp_load_row 25 (.tmp 1) rfl w1.heap.size rfl 25 C (0, 0) _ HG16.out Try.underlying25 rfl (infoMap.trans hS.out) ?_
  rename_i K2 hK2
  refine hK2 _ _ ?_
  clear hK2
  simp only [Act.put, List.setIfInBounds_toArray, List.set_cons_zero, List.set_cons_succ]
  go_wp2_with fail
  refine wp_load_row 25 (.tmp 1) rfl w1.heap.size rfl 25 C (0, 0) _ HG16.out Try.underlying25 rfl (infoMap.trans hS.out) ?_
  rename_i K2 hK2
  refine hK2 _ _ ?_
  clear hK2
  simp only [Act.put, List.setIfInBounds_toArray, List.set_cons_zero, List.set_cons_succ]
  go_wp2_with (go_at_call 19; (refine (HR1.out _).mono ?_); rintro e w7 ⟨rfl, hb7⟩)
  go_ret
  exact ⟨rfl, hbA6.trans (hb7.mono hbA6.size)⟩
end Go.Proofs.Ytobfepkeikecoaa
