/- Give of package bitmap; the statements' small test takes: it is true in every world. -/
import Derived.Test.YtobfepkeikecoaaBmK
namespace Go.Proofs.Ytobfepkeikecoaa
open Go.RowKit
set_option linter.unusedVariables false

theorem slice_map (g a n : Nat) (h : a + n ≤ 512) (hn : 1 ≤ n) (w : World) :
    (Instr.sliceAt 23 (.pointer (some ⟨g, 1, none⟩)) (some (.int .i64 (a : Int))) (some (.int .i64 ((a : Int) + (n : Int)))) none).run Try.prog w = .ok (.slice (some ⟨g, 1 + a, none⟩) n (512 - a)) w := by
  have hu : Try.prog.underlying 23 = some (.array (Try.prog.arrayLen 23) (Try.prog.elem 23)) := by kernel_rfl
  have hl : Try.prog.arrayLen 23 = 512 := by kernel_rfl
  have hsz : (Try.prog.info? (Try.prog.elem 23)).map (·.size) = some 1 := by kernel_rfl
  have hlt : ((a : Int) + (n : Int)).toNat = a + n := by omega
  have hz : (sizeOf (Try.prog.elem 23)).run Try.prog w = .ok 1 w := by
    cases hq : Try.prog.info? (Try.prog.elem 23) with
    | none => rw [hq] at hsz; cases hsz
    | some i => rw [hq] at hsz; simp at hsz; simp [sizeOf, typeInfo, hq, hsz]
  rw [run_sliceAt_array_lh (t := 23) (a := ⟨g, 1, none⟩) (kl := .i64) (kh := .i64) (l := (a : Int)) (h := (a : Int) + (n : Int)) (w := w) hu (by omega) (by omega) (by rw [hl]; omega)]
  rw [hz, hl, hlt]
  simp only [Result.andThen_ok, slicedAt, Int.toNat_natCast]
  rw [if_neg (by omega), show a + n - a = n by omega, Nat.mul_one]
  rw [show ((⟨g, 1, none⟩ : Addr).add a) = ⟨g, 1 + a, none⟩ by unfold Addr.add; split <;> simp_all]

set_option maxHeartbeats 4000000 in
set_option maxRecDepth 100000 in
theorem give_bm (p : Nat) (U : List Bool) (hU : U.length = 512) (okU : okM (p : Int) U) (a n : Nat) (hn1 : 1 ≤ n) (ha : 2 ≤ a) (han : a + n ≤ p) (w : World) (C : Array Value) (eC : C = mapC (p : Int) U) :
    Calls Try.prog 14 #[.agg C, .int .i64 (a : Int), .int .i64 (n : Int)] w fun e w' =>
      (((∀ j, j < n → U.getD (a + j) false = true) ∧ e = .returned (.tuple #[.agg (mapC (p : Int) (markN U a false n)), .int .i64 0])) ∨ ((∃ j, j < n ∧ U.getD (a + j) false = false) ∧ e = .returned (.tuple #[.agg Try.zeroCells25, .int .i64 10]))) ∧ Below w.heap.size w w' := by
  have hp : p ≤ 512 := by have := okU.2.1; omega
  have d1 : decide ((n : Int) < 0) = false := by simp
  have d2 : decide ((a : Int) < 2) = false := by simp; omega
  have d3 : decide ((p : Int) - (n : Int) < (a : Int)) = false := by simp; omega
  have hS : Hid (some 513 = some C.size) := Lib.hid (by rw [eC, size_mapC hU])
  obtain ⟨W, eW⟩ : ∃ W, W = (w.alloc (.cells C 25)).alloc (.cells Try.zeroCells25 25) := ⟨_, rfl⟩
  have HM : Hid (MapAt W w.heap.size 25 (p : Int) U) := Lib.hid (by rw [eW, eC]; exact (MapAt.new w _ _ U).alloc _)
  have HBL : Hid (Below w.heap.size w W) := Lib.hid (by rw [eW]; exact ((Below.refl _ _).alloc (Nat.le_refl _) _).alloc (by simp) _)
  have HZ : Hid (W.heap[w.heap.size + 1]? = some (.cells Try.zeroCells25 25 (0, 0))) := Lib.hid (by rw [eW]; have := heap_alloc_new (w.alloc (.cells C 25)) (.cells Try.zeroCells25 25); simpa using this)
  have hg1 : Hid (W.heap[w.heap.size]? = some (.cells C 25 (0, 0))) := Lib.hid (by rw [eC]; exact HM.out)
  have HRG := Lib.hid (fun W => right_bmC (p : Int) U hU W C eC true (by simp [okU]))
  have hWs : Hid (W.heap.size = w.heap.size + 2) := Lib.hid (by rw [eW]; simp)
  obtain ⟨C', eC'⟩ : ∃ C', C' = mapC (p : Int) (markN U a false n) := ⟨_, rfl⟩
  have HMK : Hid (∀ (W : World), Calls Try.prog 39 #[.agg C, .int .i64 (a : Int), .int .i64 (n : Int), .bool false] W fun e w' => e = .returned (.agg C') ∧ Below W.heap.size W w') := Lib.hid (fun W => by rw [eC, eC']; exact marked_any (p : Int) U hU a n a n rfl rfl (by omega) false W)
  have hS' : Hid (some 513 = some C'.size) := Lib.hid (by rw [eC', size_mapC (by rw [length_markN, hU])])
  have hO' : Hid (C'.all (·.oneCell') = true) := Lib.hid (by rw [eC']; exact one_mapC _ _)
  have HSZ : Hid (some 513 = some (Try.zeroCells25).size) := Lib.hid (by rw [size_zeroMap])
  have HOZ : Hid ((Try.zeroCells25).all (·.oneCell') = true) := Lib.hid (by rw [zeroMap]; exact one_mapC _ _)
  have HSL := fun W => slice_map w.heap.size a n (by omega) hn1 W
  have EC' := Lib.hid eC'
  have EW := Lib.hid eW.symm
  rw [← eC']
  clear eC okU eW eC'
  go_enter Try.func14, Try.ntmps14
  go_upto_region 1 with fail
  rw [EW.out]
  go_wp2_with (first
    | (refine wpList_load_row rfl 25 (.tmp 3) rfl w.heap.size rfl 25 C (0, 0) _ hg1.out Try.underlying25 rfl (infoMap.trans hS.out) ?_)
    | (go_at_call 21; (refine (HRG.out _).mono ?_); rintro e w1 ⟨rfl, hb1⟩; have M1 := Lib.hid (HM.out.below hb1 HM.out.lt); have k0 := M1.out.c0))
  have hbA : Below w.heap.size w w1 := HBL.out.trans (hb1.mono HBL.out.size)
  have hs1 : w.heap.size + 2 ≤ w1.heap.size := by have := hb1.size; rw [hWs.out] at this; exact this
  have HZ1 := Lib.hid ((hb1.block _ (by rw [hWs.out]; omega)).trans HZ.out)
  have HG1 := Lib.hid ((hb1.block _ (by rw [hWs.out]; omega)).trans hg1.out)
  clear hb1
  go_loop [37] (fun i => ∃ k : Nat, k ≤ n ∧ i = .int .i64 k ∧ Hid (∀ j, j < k → U.getD (a + j) false = true)) (fun i => n - (intOf i).toNat)
  case atStart => exact ⟨0, by omega, rfl, Lib.hid (fun j h => by omega)⟩
  case round =>
    obtain ⟨k, hk, rfl, hall⟩ := hrel
    by_cases hlt : k < n
    · have hc := M1.out.cs (a + k) (by omega)
      obtain ⟨u, hu⟩ : ∃ u, u = U.getD (a + k) false := ⟨_, rfl⟩
      rw [← hu] at hc
      have hc2 : w1.cell? ⟨w.heap.size, 1 + a + k, none⟩ = some (.bool u) := by rw [Nat.add_assoc]; exact hc
      have HU := Lib.hid hu
      clear hu
      cases u
      · go_wp2_with (refine wpList_store_row rfl 25 (.tmp 6) (.tmp 43) rfl (w.heap.size + 1) Try.zeroCells25 rfl rfl 25 Try.zeroCells25 HZ1.out (infoMap.trans HSZ.out) rfl HOZ.out ?_)
        refine bodyPost_ret (v := .tuple #[.agg Try.zeroCells25, .int .i64 10]) (results_cell_tmp (p := 6) (u := 7) (ty := 25) rfl _ _ (w.heap.size + 1) 25 Try.zeroCells25 (0, 0) _ rfl (setRow_heap _ _ Try.zeroCells25 _ _ _ HZ1.out) Try.underlying25 rfl (infoMap.trans HSZ.out)) rfl ⟨.inr ⟨⟨k, hlt, HU.out.symm⟩, rfl⟩, ?_⟩
        exact below_setRow hbA (by omega) _
      · go_wp2_with fail
        go_round
        case rel =>
          refine ⟨k + 1, by omega, by go_num, Lib.hid (fun j hj => ?_)⟩
          rcases Nat.lt_or_ge j k with h | h
          · exact hall.out j h
          · obtain rfl : j = k := by omega
            exact HU.out.symm
        case measure => simp [intOf]; omega
    · obtain rfl : k = n := by omega
      go_wp2_with (first
        | (refine wpList_load_row rfl 25 (.tmp 3) rfl w.heap.size rfl 25 C (0, 0) _ HG1.out Try.underlying25 rfl (infoMap.trans hS.out) ?_)
        | (go_at_call 39; (refine (HMK.out _).mono ?_); rintro e w2 ⟨rfl, hb2⟩; have HZ2 := Lib.hid ((hb2.block _ (by omega)).trans HZ1.out))
        | (refine wpList_store_row rfl 25 (.tmp 6) (.tmp 48) rfl (w.heap.size + 1) C' rfl rfl 25 Try.zeroCells25 HZ2.out (infoMap.trans hS'.out) (size_zeroMap.trans (Option.some.inj hS'.out)) hO'.out ?_))
      refine bodyPost_ret (v := .tuple #[.agg C', .int .i64 0]) (results_cell_tmp (p := 6) (u := 7) (ty := 25) rfl _ _ (w.heap.size + 1) 25 C' (0, 0) _ rfl (setRow_heap _ _ Try.zeroCells25 _ _ _ HZ2.out) Try.underlying25 rfl (infoMap.trans hS'.out)) rfl ⟨.inl ⟨hall.out, rfl⟩, ?_⟩
      exact below_setRow (hbA.trans (hb2.mono hbA.size)) (by omega) _
end Go.Proofs.Ytobfepkeikecoaa
