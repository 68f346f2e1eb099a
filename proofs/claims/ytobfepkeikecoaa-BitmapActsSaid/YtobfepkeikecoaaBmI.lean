/- An array of bools by value: its places. -/
import Derived.Test.YtobfepkeikecoaaBmF
namespace Go.Proofs.Ytobfepkeikecoaa
open Go.RowKit
set_option linter.unusedVariables false
theorem run_idx (U : List Bool) (hU : U.length = 512) (k : Nat) (hk : k < 512) (w : World) :
    (Instr.index 23 (.agg (U.map Value.bool).toArray) (.int .i64 (k : Int))).run Try.prog w = .ok (.bool (U.getD k false)) w := by
  have hu : Try.prog.underlying 23 = some (.array 512 4) := by kernel_rfl
  have hi : 0 ≤ (k : Int) ∧ (k : Int) < ((512 : Nat) : Int) := by omega
  simp [Instr.index, run_underlying hu, asIntOf, hk, go_sem]
  rw [List.getElem?_eq_getElem (by omega)]
  rfl

theorem retBm {a b : Bool} (h : a = b) : Ending.returned (.bool a) = Ending.returned (.bool b) := by rw [h]
theorem okM_no {p : Int} {U : List Bool} {j : Nat} (hj : j < 512) (h : okAt p U j = false) : decide (okM p U) = false := by
  rw [decide_eq_false_iff_not]
  intro hk
  rw [hk.2.2 j hj] at h
  cases h

set_option maxHeartbeats 1000000 in
set_option maxRecDepth 100000 in
theorem right_bm (p : Int) (U : List Bool) (hU : U.length = 512) (w : World) :
    Calls Try.prog 21 #[.agg (mapC p U)] w fun e w' => e = .returned (.bool (decide (okM p U))) ∧ Below w.heap.size w w' := by
  obtain ⟨C, eC⟩ : ∃ C, C = mapC p U := ⟨_, rfl⟩
  have hm0 : MapAt (w.alloc (.cells C 25)) w.heap.size 25 p U := by rw [eC]; exact MapAt.new w _ p U
  have c0 := hm0.c0
  have HM0 := Lib.hid hm0
  have HR := Lib.hid hm0.range
  have hL : Hid (some 512 = some (U.map Value.bool).length) := Lib.hid (by simp [hU])
  have infoA : (Try.prog.info? 23).map (·.size) = some 512 := by kernel_rfl
  have IA := Lib.hid infoA
  have hbl : Hid (Below w.heap.size w (w.alloc (.cells C 25))) := Lib.hid ((Below.refl _ _).alloc (Nat.le_refl _) _)
  have HU := Lib.hid hU
  rw [← eC]
  clear eC hm0 infoA hU
  by_cases h8 : p < 8
  · have d1 : decide (p < 8) = true := by simpa using h8
    go_enter Try.func21, Try.ntmps21
    go_wp2_with fail
    go_ret
    exact ⟨retBm (by symm; rw [decide_eq_false_iff_not]; intro h; have := h.1; omega), hbl.out⟩
  · have d1 : decide (p < 8) = false := by simpa using h8
    by_cases h5 : 512 < p
    · have d2 : decide (512 < p) = true := by simpa using h5
      go_enter Try.func21, Try.ntmps21
      go_wp2_with fail
      go_ret
      exact ⟨retBm (by symm; rw [decide_eq_false_iff_not]; intro h; have := h.2.1; omega), hbl.out⟩
    · have d2 : decide (512 < p) = false := by simpa using h5
      obtain ⟨q, rfl⟩ := Int.eq_ofNat_of_zero_le (show 0 ≤ p by omega)
      go_enter Try.func21, Try.ntmps21
      go_wp2_with (refine wpList_load_mid rfl 23 _ rfl w.heap.size 1 rfl _ _ HR.out Try.underlying23 rfl (IA.out.trans hL.out) ?_)
      go_loop [15] (fun i => ∃ k : Nat, k ≤ 512 ∧ i = .int .i64 k ∧ Hid (∀ j, j < k → okAt (q : Int) U j = true)) (fun i => 512 - (intOf i).toNat)
      case atStart => exact ⟨0, by omega, rfl, Lib.hid (fun j hj => by omega)⟩
      case round =>
        obtain ⟨k, hk, rfl, hall⟩ := hrel
        by_cases hlt : k < 512
        · have hidx := fun W => run_idx U HU.out k hlt W
          obtain ⟨u, hu⟩ : ∃ u, u = U.getD k false := ⟨_, rfl⟩
          rw [← hu] at hidx
          have HUU := Lib.hid hu
          clear hu
          by_cases h2 : k < 2
          · have e2 : decide ((k : Int) < 2) = true := by simp; omega
            cases u
            · go_wp2_with fail
              go_ret
              exact ⟨retBm (okM_no hlt (by unfold okAt; rw [← HUU.out]; simp [h2])).symm, hbl.out⟩
            · have e3 : decide ((q : Int) ≤ (k : Int)) = false := by simp; omega
              go_wp2_with fail
              go_round
              case rel =>
                refine ⟨k + 1, by omega, by go_num, Lib.hid (fun j hj => ?_)⟩
                rcases Nat.lt_or_ge j k with h | h
                · exact hall.out j h
                · obtain rfl : j = k := by omega
                  unfold okAt; rw [← HUU.out]; simp; omega
              case measure => simp [intOf]; omega
          · have e2 : decide ((k : Int) < 2) = false := by simp; omega
            by_cases h3 : q ≤ k
            · have e3 : decide ((q : Int) ≤ (k : Int)) = true := by simp; omega
              cases u
              · go_wp2_with fail
                go_round
                case rel =>
                  refine ⟨k + 1, by omega, by go_num, Lib.hid (fun j hj => ?_)⟩
                  rcases Nat.lt_or_ge j k with h | h
                  · exact hall.out j h
                  · obtain rfl : j = k := by omega
                    unfold okAt; rw [← HUU.out]; simp; omega
                case measure => simp [intOf]; omega
              · go_wp2_with fail
                go_ret
                exact ⟨retBm (okM_no hlt (by unfold okAt; rw [← HUU.out]; simp [h3])).symm, hbl.out⟩
            · have e3 : decide ((q : Int) ≤ (k : Int)) = false := by simp; omega
              go_wp2_with fail
              go_round
              case rel =>
                refine ⟨k + 1, by omega, by go_num, Lib.hid (fun j hj => ?_)⟩
                rcases Nat.lt_or_ge j k with h | h
                · exact hall.out j h
                · obtain rfl : j = k := by omega
                  unfold okAt; simp; omega
              case measure => simp [intOf]; omega
        · obtain rfl : k = 512 := by omega
          go_wp2_with fail
          go_ret
          exact ⟨retBm (by symm; rw [decide_eq_true_eq]; exact ⟨by omega, by omega, hall.out⟩), hbl.out⟩
end Go.Proofs.Ytobfepkeikecoaa
