/- Give of no page; the reference's Run of two maps. -/
import Derived.Test.YtobfepkeikecoaaBmZ
namespace Go.Proofs.Ytobfepkeikecoaa
open Go.RowKit PageM
set_option linter.unusedVariables false

theorem slice_map0 (g a : Nat) (h : a ≤ 512) : ∃ A c, ∀ w : World,
    (Instr.sliceAt 23 (.pointer (some ⟨g, 1, none⟩)) (some (.int .i64 (a : Int))) (some (.int .i64 (a : Int))) none).run Try.prog w = .ok (.slice A 0 c) w := by
  have hu : Try.prog.underlying 23 = some (.array (Try.prog.arrayLen 23) (Try.prog.elem 23)) := by kernel_rfl
  have hl : Try.prog.arrayLen 23 = 512 := by kernel_rfl
  have hsz : (Try.prog.info? (Try.prog.elem 23)).map (·.size) = some 1 := by kernel_rfl
  have hz : ∀ w : World, (sizeOf (Try.prog.elem 23)).run Try.prog w = .ok 1 w := fun w => by
    cases hq : Try.prog.info? (Try.prog.elem 23) with
    | none => rw [hq] at hsz; cases hsz
    | some i => rw [hq] at hsz; simp at hsz; simp [sizeOf, typeInfo, hq, hsz]
  refine ⟨some (if 512 = a then ⟨g, 1, none⟩ else ⟨g, 1 + a, none⟩), 512 - a, fun w => ?_⟩
  rw [run_sliceAt_array_lh (t := 23) (a := ⟨g, 1, none⟩) (kl := .i64) (kh := .i64) (l := (a : Int)) (h := (a : Int)) (w := w) hu (by omega) (by omega) (by rw [hl]; omega)]
  rw [hz, hl]
  simp only [Result.andThen_ok, slicedAt, Int.toNat_natCast, Nat.sub_self, Nat.mul_one]
  rw [show ((⟨g, 1, none⟩ : Addr).add a) = ⟨g, 1 + a, none⟩ by unfold Addr.add; split <;> simp_all]

set_option maxHeartbeats 2000000 in
set_option maxRecDepth 100000 in
theorem give_zero (p : Nat) (U : List Bool) (hU : U.length = 512) (okU : okM (p : Int) U) (a : Nat) (ha : 2 ≤ a) (han : a ≤ p) (w : World) (C : Array Value) (eC : C = mapC (p : Int) U) :
    Calls Try.prog 14 #[.agg C, .int .i64 (a : Int), .int .i64 0] w fun e w' => e = .returned (.tuple #[.agg C, .int .i64 0]) ∧ Below w.heap.size w w' := by
  have hp : p ≤ 512 := by have := okU.2.1; omega
  have d2 : decide ((a : Int) < 2) = false := by simp; omega
  have d3 : decide ((p : Int) < (a : Int)) = false := by simp; omega
  have d3' : decide (p < a) = false := by simp; omega
  have d3'' : decide ((p : Int) - 0 < (a : Int)) = false := by simp; omega
  have hS : Hid (some 513 = some C.size) := Lib.hid (by rw [eC, size_mapC hU])
  have hO : Hid (C.all (·.oneCell') = true) := Lib.hid (by rw [eC]; exact one_mapC _ _)
  obtain ⟨W, eW⟩ : ∃ W, W = (w.alloc (.cells C 25)).alloc (.cells Try.zeroCells25 25) := ⟨_, rfl⟩
  have HM : Hid (MapAt W w.heap.size 25 (p : Int) U) := Lib.hid (by rw [eW, eC]; exact (MapAt.new w _ _ U).alloc _)
  have HBL : Hid (Below w.heap.size w W) := Lib.hid (by rw [eW]; exact ((Below.refl _ _).alloc (Nat.le_refl _) _).alloc (by simp) _)
  have HZ : Hid (W.heap[w.heap.size + 1]? = some (.cells Try.zeroCells25 25 (0, 0))) := Lib.hid (by rw [eW]; exact heap_alloc2_new _ _ _)
  have hg1 : Hid (W.heap[w.heap.size]? = some (.cells C 25 (0, 0))) := Lib.hid (by rw [eC]; exact HM.out)
  have HRG := Lib.hid (fun W => right_bmC (p : Int) U hU W C eC true (by simp [okU]))
  have hWs : Hid (W.heap.size = w.heap.size + 2) := Lib.hid (by rw [eW]; simp)
  have HMK : Hid (∀ (W : World), Calls Try.prog 39 #[.agg C, .int .i64 (a : Int), .int .i64 0, .bool false] W fun e w' => e = .returned (.agg C) ∧ Below W.heap.size W w') := Lib.hid (fun W => by rw [eC]; exact marked_any (p : Int) U hU a 0 a 0 rfl rfl (by omega) false W)
  obtain ⟨SA, SC, HSL⟩ := slice_map0 w.heap.size a (by omega)
  have EW := Lib.hid eW.symm
  clear eC okU eW
  go_enter Try.func14, Try.ntmps14
  go_upto_region 1 with fail
  rw [EW.out]
  go_upto_region 4 with (first
    | (refine wpList_load_row rfl 25 (.tmp 3) rfl w.heap.size rfl 25 C (0, 0) _ hg1.out Try.underlying25 rfl (infoMap.trans hS.out) ?_)
    | (go_at_call 21; (refine (HRG.out _).mono ?_); rintro e w1 ⟨rfl, hb1⟩; have M1 := Lib.hid (HM.out.below hb1 HM.out.lt); have k0 := M1.out.c0))
  have hbA : Below w.heap.size w w1 := HBL.out.trans (hb1.mono HBL.out.size)
  have hs1 : w.heap.size + 2 ≤ w1.heap.size := by have := hb1.size; rw [hWs.out] at this; exact this
  have HZ1 := Lib.hid ((hb1.block _ (by rw [hWs.out]; omega)).trans HZ.out)
  have HG1 := Lib.hid ((hb1.block _ (by rw [hWs.out]; omega)).trans hg1.out)
  clear hb1
  go_loop [37] (fun i => i = .int .i64 0) (fun i => 0)
  case atStart => rfl
  case round =>
    obtain rfl := hrel
    go_wp2_with (first
      | (refine wpList_load_row rfl 25 (.tmp 3) rfl w.heap.size rfl 25 C (0, 0) _ HG1.out Try.underlying25 rfl (infoMap.trans hS.out) ?_)
      | (go_at_call 39; (refine (HMK.out _).mono ?_); rintro e w2 ⟨rfl, hb2⟩; have HZ2 := Lib.hid ((hb2.block _ (by omega)).trans HZ1.out))
      | (refine wpList_store_row rfl 25 (.tmp 6) (.tmp 48) rfl (w.heap.size + 1) C rfl rfl 25 Try.zeroCells25 HZ2.out (infoMap.trans hS.out) (size_zeroMap.trans (Option.some.inj hS.out)) hO.out ?_))
    refine bodyPost_ret (v := .tuple #[.agg C, .int .i64 0]) (results_cell_tmp (p := 6) (u := 7) (ty := 25) rfl _ _ (w.heap.size + 1) 25 C (0, 0) _ rfl (setRow_heap _ _ Try.zeroCells25 _ _ _ HZ2.out) Try.underlying25 rfl (infoMap.trans hS.out)) rfl ⟨rfl, ?_⟩
    exact below_setRow (hbA.trans (hb2.mono hbA.size)) (by omega) _

theorem runF_is {U V : List Bool} {p b : Nat} (h1 : b = 0 ∨ ∃ a, fits p U V b a) (h2 : ∀ n a, fits p U V n a → n ≤ b) : (runF U V p).1 = b := by
  obtain ⟨h3, h4⟩ := runF_max U V p
  have e1 : b ≤ (runF U V p).1 := by
    rcases h1 with h | ⟨a, h⟩
    · omega
    · exact h4 b a h
  have e2 : (runF U V p).1 ≤ b := by
    rcases h3 with h | ⟨a, h⟩
    · omega
    · exact h2 _ a h
  omega

set_option maxHeartbeats 4000000 in
set_option maxRecDepth 100000 in
theorem rrun_bm (p : Nat) (U V : List Bool) (hU : U.length = 512) (hV : V.length = 512) (okU : okM (p : Int) U) (okV : okM (p : Int) V) (w : World) (C D : Array Value) (eC : C = mapC (p : Int) U) (eD : D = mapC (p : Int) V) (f : Nat) (hf : f = (runF U V p).1) :
    Calls Try.prog 20 #[.agg C, .agg D] w fun e w' => e = .returned (.int .i64 (f : Int)) ∧ Below w.heap.size w w' := by
  have hp : p ≤ 512 := by have := okU.2.1; omega
  have hS : Hid (some 513 = some C.size) := Lib.hid (by rw [eC, size_mapC hU])
  have hT : Hid (some 513 = some D.size) := Lib.hid (by rw [eD, size_mapC hV])
  obtain ⟨W, eW⟩ : ∃ W, W = (w.alloc (.cells C 27)).alloc (.cells D 27) := ⟨_, rfl⟩
  have HBL : Hid (Below w.heap.size w W) := Lib.hid (by rw [eW]; exact ((Below.refl _ _).alloc (Nat.le_refl _) _).alloc (by simp) _)
  have hg1 : Hid (W.heap[w.heap.size]? = some (.cells C 27 (0, 0))) := Lib.hid (by rw [eW]; exact heap_alloc2_old _ _ _)
  have hg2 : Hid (W.heap[w.heap.size + 1]? = some (.cells D 27 (0, 0))) := Lib.hid (by rw [eW]; exact heap_alloc2_new _ _ _)
  have hWs : Hid (W.heap.size = w.heap.size + 2) := Lib.hid (by rw [eW]; simp)
  have HRU := Lib.hid (fun W => right_rf (p : Int) U hU W C eC true (by simp [okU]))
  have HRV := Lib.hid (fun W => right_rf (p : Int) V hV W D eD true (by simp [okV]))
  have HFR : Hid (∀ (k b : Nat) (zb : Int) (W : World) (r : Bool), k ≤ 512 → b ≤ 512 → zb = (b : Int) + 1 → r = decide (fits p U V (b + 1) k) → Calls Try.prog 41 #[.agg C, .agg D, .int .i64 (k : Int), .int .i64 zb] W fun e w' => e = .returned (.bool r) ∧ Below W.heap.size W w') := Lib.hid (fun k b zb W r hk hb hz hr => free_rf p U V hU hV hp p k zb k (b + 1) rfl (by omega) (by omega) (by omega) W C D eC eD r hr)
  have EC := Lib.hid eC
  have ED := Lib.hid eD
  have EW := Lib.hid eW.symm
  have HF := Lib.hid hf
  clear eW eC eD okU okV hU hV hf
  go_enter Try.func20, Try.ntmps20
  go_upto_region 1 with fail
  rw [EW.out]
  go_wp2_with (first
    | (refine wpList_load_row rfl 27 (.tmp 2) rfl w.heap.size rfl 27 C (0, 0) _ hg1.out Try.underlying27 rfl (infoMapR.trans hS.out) ?_)
    | (go_at_call 24; (refine (HRU.out _).mono ?_); rintro e w1 ⟨rfl, hb1⟩; have HG2 := Lib.hid ((hb1.block _ (by rw [hWs.out]; omega)).trans hg2.out)))
  refine wp_load_row 27 (.tmp 3) rfl (w.heap.size + 1) rfl 27 D (0, 0) _ HG2.out Try.underlying27 rfl (infoMapR.trans hT.out) ?_
  rename_i K2 hK2
  refine hK2 _ _ ?_
  clear hK2
  simp only [Act.put, List.setIfInBounds_toArray, List.set_cons_zero, List.set_cons_succ]
  go_upto_region 5 with (go_at_call 24; (refine (HRV.out _).mono ?_); rintro e w2 ⟨rfl, hb2⟩; have HB2 := Lib.hid ((HBL.out.trans (hb1.mono HBL.out.size)).trans (hb2.mono (HBL.out.trans (hb1.mono HBL.out.size)).size)); have hg31 := (hb2.block w.heap.size (by have := hb1.size; rw [hWs.out] at this; omega)).trans ((hb1.block _ (by rw [hWs.out]; omega)).trans hg1.out); have hg32 := (hb2.block (w.heap.size + 1) (by have := hb1.size; rw [hWs.out] at this; omega)).trans HG2.out; have HS3 : Hid (w.heap.size + 2 ≤ w2.heap.size) := Lib.hid (by have h1 := hb1.size; have h2 := hb2.size; rw [hWs.out] at h1; omega); have k1 : w2.cell? ⟨w.heap.size, 0, none⟩ = some (.int .i64 (p : Int)) := (show MapAt w2 w.heap.size 27 (p : Int) U by unfold MapAt; rw [← EC.out]; exact hg31).c0; have k2 : w2.cell? ⟨w.heap.size + 1, 0, none⟩ = some (.int .i64 (p : Int)) := (show MapAt w2 (w.heap.size + 1) 27 (p : Int) V by unfold MapAt; rw [← ED.out]; exact hg32).c0)
  have HG31 := Lib.hid hg31
  have HG32 := Lib.hid hg32
  clear hg31 hg32 k1 k2 hb1 hb2 HG2 hg1 hg2 HBL
  go_loopw [5, 6] (fun bv i wr => ∃ k b : Nat, k ≤ p ∧ b ≤ p ∧ i = .int .i64 k ∧ bv = .int .i64 b ∧ Hid ((b = 0 ∨ ∃ a, fits p U V b a) ∧ ∀ n a, a < k → fits p U V n a → n ≤ b) ∧ Hid (Below w2.heap.size w2 wr)) (fun _ i _ => p - (intOf i).toNat)
  case atStart => exact ⟨0, 0, by omega, by omega, rfl, rfl, Lib.hid ⟨.inl rfl, fun n a h => by omega⟩, Lib.hid (Below.refl _ _)⟩
  case round =>
    obtain ⟨k, b0, hk, hb0, rfl, rfl, HI, HBW⟩ := hrel
    have hsw := HBW.out.size
    have k0 : wr.cell? ⟨w.heap.size, 0, none⟩ = some (.int .i64 (p : Int)) := (show MapAt wr w.heap.size 27 (p : Int) U by unfold MapAt; rw [← EC.out]; exact (HBW.out.block _ (by have := HS3.out; omega)).trans HG31.out).c0
    by_cases hlt : k < p
    · go_upto_region 7 with fail
      clear hsw k0
      go_loopw [5] (fun bv wx => ∃ b : Nat, b ≤ p ∧ bv = .int .i64 b ∧ Hid ((b = 0 ∨ ∃ a, fits p U V b a) ∧ ∀ n a, a < k → fits p U V n a → n ≤ b) ∧ Hid (Below w2.heap.size w2 wx)) (fun bv _ => p + 1 - (intOf bv).toNat)
      case atStart => exact ⟨b0, hb0, rfl, HI, HBW⟩
      case round =>
        obtain ⟨b, hb, rfl, HJ, HBX⟩ := hrel
        have HG1 : Hid (wr.heap[w.heap.size]? = some (.cells C 27 (0, 0))) := Lib.hid ((HBX.out.block _ (by have := HS3.out; omega)).trans HG31.out)
        have HG2 : Hid (wr.heap[w.heap.size + 1]? = some (.cells D 27 (0, 0))) := Lib.hid ((HBX.out.block _ (by have := HS3.out; omega)).trans HG32.out)
        obtain ⟨r, hr⟩ : ∃ r, r = decide (fits p U V (b + 1) k) := ⟨_, rfl⟩
        have HR := Lib.hid hr
        clear hr
        cases r
        · go_wp2_with (first
            | (refine wpList_load_row rfl 27 (.tmp 2) rfl w.heap.size rfl 27 C (0, 0) _ HG1.out Try.underlying27 rfl (infoMapR.trans hS.out) ?_)
            | (refine wpList_load_row rfl 27 (.tmp 3) rfl (w.heap.size + 1) rfl 27 D (0, 0) _ HG2.out Try.underlying27 rfl (infoMapR.trans hT.out) ?_)
            | (go_at_call 41; (refine (HFR.out k b _ _ false (by omega) (by omega) rfl HR.out).mono ?_); rintro e w5 ⟨rfl, hb5⟩))
          go_roundw
          case rel =>
            refine ⟨k + 1, b, by omega, hb, by go_num, rfl, Lib.hid ⟨HJ.out.1, fun n a ha h => ?_⟩, Lib.hid (HBX.out.trans (hb5.mono HBX.out.size))⟩
            rcases Nat.lt_or_ge a k with h1 | h1
            · exact HJ.out.2 n a h1 h
            · obtain rfl : a = k := by omega
              rcases Nat.lt_or_ge b n with h2 | h2
              · exact absurd (fits_less h h2) (of_decide_eq_false HR.out.symm)
              · exact h2
          case measure => simp [intOf]; omega
        · have HFIT : Hid (fits p U V (b + 1) k) := Lib.hid (of_decide_eq_true HR.out.symm)
          have hbp : k + (b + 1) ≤ p := HFIT.out.1
          go_wp2_with (first
            | (refine wpList_load_row rfl 27 (.tmp 2) rfl w.heap.size rfl 27 C (0, 0) _ HG1.out Try.underlying27 rfl (infoMapR.trans hS.out) ?_)
            | (refine wpList_load_row rfl 27 (.tmp 3) rfl (w.heap.size + 1) rfl 27 D (0, 0) _ HG2.out Try.underlying27 rfl (infoMapR.trans hT.out) ?_)
            | (go_at_call 41; (refine (HFR.out k b _ _ true (by omega) (by omega) rfl HR.out).mono ?_); rintro e w5 ⟨rfl, hb5⟩))
          go_roundw
          case rel =>
            refine ⟨b + 1, by omega, by go_num, Lib.hid ⟨.inr ⟨k, HFIT.out⟩, fun n a ha h => ?_⟩, Lib.hid (HBX.out.trans (hb5.mono HBX.out.size))⟩
            have := HJ.out.2 n a ha h
            omega
          case measure => simp [intOf]; omega
    · obtain rfl : k = p := by omega
      go_wp2_with fail
      go_ret
      refine ⟨?_, HB2.out.trans (HBW.out.mono (by have := HS3.out; omega))⟩
      have h9 := runF_is HI.out.1 (fun n a h => by
        rcases Nat.lt_or_ge a k with h1 | h1
        · exact HI.out.2 n a h1 h
        · have := h.1
          omega)
      rw [HF.out, h9]
      rfl
end Go.Proofs.Ytobfepkeikecoaa
