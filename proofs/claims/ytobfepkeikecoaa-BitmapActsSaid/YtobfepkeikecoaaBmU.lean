/- Free and Run of package bitmap. -/
import Derived.Test.YtobfepkeikecoaaBmT
namespace Go.Proofs.Ytobfepkeikecoaa
open Go.RowKit
set_option linter.unusedVariables false

theorem freeN_le (U : List Bool) : ∀ k, freeN U k ≤ k
  | 0 => Nat.le_refl _
  | k + 1 => by
    have := freeN_le U k
    unfold freeN
    split <;> omega

set_option maxHeartbeats 1000000 in
set_option maxRecDepth 100000 in
theorem free_bm (p : Nat) (U : List Bool) (hU : U.length = 512) (hp : p ≤ 512) (w : World) (C : Array Value) (eC : C = mapC (p : Int) U) (f : Nat) (hf : f = freeN U p) :
    Calls Try.prog 22 #[.agg C] w fun e w' => e = .returned (.int .i64 (f : Int)) ∧ Below w.heap.size w w' := by
  have HM : Hid (MapAt (w.alloc (.cells C 25)) w.heap.size 25 (p : Int) U) := Lib.hid (by rw [eC]; exact MapAt.new w _ _ U)
  have c0 := HM.out.c0
  have hbl : Hid (Below w.heap.size w (w.alloc (.cells C 25))) := Lib.hid ((Below.refl _ _).alloc (Nat.le_refl _) _)
  have HF := Lib.hid hf
  have hmin : min (p : Int) 512 = (p : Int) := by omega
  clear eC hf
  go_enter Try.func22, Try.ntmps22
  go_wp2_with fail
  go_loop [3, 8] (fun v i => ∃ k : Nat, k ≤ p ∧ i = .int .i64 k ∧ v = .int .i64 (freeN U k : Nat)) (fun _ i => p - (intOf i).toNat)
  case atStart => exact ⟨0, by omega, rfl, rfl⟩
  case round =>
    obtain ⟨k, hk, rfl, rfl⟩ := hrel
    by_cases hlt : k < p
    · have hc := HM.out.cs k (by omega)
      obtain ⟨u, hu⟩ : ∃ u, u = U.getD k false := ⟨_, rfl⟩
      have hfl := freeN_le U k
      have hst : freeN U (k + 1) = freeN U k + (if u then 0 else 1) := by rw [hu]; rfl
      rw [← hu] at hc
      have HST := Lib.hid hst
      clear hu hst
      cases u
      · go_wp2_with fail
        go_round
        case rel => exact ⟨k + 1, by omega, by go_num, by rw [HST.out]; simp⟩
        case measure => simp [intOf]; omega
      · go_wp2_with fail
        go_round
        case rel => exact ⟨k + 1, by omega, by go_num, by rw [HST.out]; simp⟩
        case measure => simp [intOf]; omega
    · obtain rfl : k = p := by omega
      go_wp2_with fail
      go_ret
      exact ⟨by rw [HF.out]; rfl, hbl.out⟩

/-- The longest run of free pages among the first k, and the run that ends there. -/
def runF (U V : List Bool) : Nat → Nat × Nat
  | 0 => (0, 0)
  | k + 1 => let f := if U.getD k false || V.getD k false then 0 else (runF U V k).2 + 1; (max (runF U V k).1 f, f)
theorem runF_le (U V : List Bool) : ∀ k, (runF U V k).1 ≤ k ∧ (runF U V k).2 ≤ k
  | 0 => ⟨Nat.le_refl _, Nat.le_refl _⟩
  | k + 1 => by
    have := runF_le U V k
    simp only [runF]
    split
    · exact ⟨Nat.max_le.2 ⟨by omega, by omega⟩, by omega⟩
    · exact ⟨Nat.max_le.2 ⟨by omega, by omega⟩, by omega⟩

/-- Two maps side by side, as a call of two begins. -/
theorem two_maps {p q : Int} {U V : List Bool} {C D : Array Value} (w : World) (eC : C = mapC p U) (eD : D = mapC q V) :
    MapAt ((w.alloc (.cells C 25)).alloc (.cells D 25)) w.heap.size 25 p U ∧ MapAt ((w.alloc (.cells C 25)).alloc (.cells D 25)) (w.heap.size + 1) 25 q V ∧ Below w.heap.size w ((w.alloc (.cells C 25)).alloc (.cells D 25)) := by
  refine ⟨by rw [eC]; exact (MapAt.new w _ p U).alloc _, by rw [eD]; have := MapAt.new (w.alloc (.cells C 25)) 25 q V; simpa using this, ((Below.refl _ _).alloc (Nat.le_refl _) _).alloc (by simp) _⟩

set_option maxHeartbeats 2000000 in
set_option maxRecDepth 100000 in
theorem run_bm (p : Nat) (U V : List Bool) (hU : U.length = 512) (hV : V.length = 512) (okU : okM (p : Int) U) (okV : okM (p : Int) V) (w : World) (C D : Array Value) (eC : C = mapC (p : Int) U) (eD : D = mapC (p : Int) V) (f : Nat) (hf : f = (runF U V p).1) :
    Calls Try.prog 19 #[.agg C, .agg D] w fun e w' => e = .returned (.int .i64 (f : Int)) ∧ Below w.heap.size w w' := by
  have hp : p ≤ 512 := by have := okU.2.1; omega
  obtain ⟨hm, hm2, hbl⟩ := two_maps w eC eD
  have HM := Lib.hid hm
  have HM2 := Lib.hid hm2
  have HBL := Lib.hid hbl
  have hS : Hid (some 513 = some C.size) := Lib.hid (by rw [eC, size_mapC hU])
  have hT : Hid (some 513 = some D.size) := Lib.hid (by rw [eD, size_mapC hV])
  have hg1 : Hid (((w.alloc (.cells C 25)).alloc (.cells D 25)).heap[w.heap.size]? = some (.cells C 25 (0, 0))) := Lib.hid (heap_alloc2_old _ _ _)
  have hg2 : Hid (((w.alloc (.cells C 25)).alloc (.cells D 25)).heap[w.heap.size + 1]? = some (.cells D 25 (0, 0))) := Lib.hid (heap_alloc2_new _ _ _)
  have HTG := Lib.hid (fun W => together_bm (p : Int) (p : Int) U V hU hV W C D eC eD true (by simp [okU, okV]))
  have HF := Lib.hid hf
  clear hm hm2 hbl eC eD hf okU okV
  go_enter Try.func19, Try.ntmps19
  go_wp2_with (first
    | (refine wpList_load_row rfl 25 (.tmp 2) rfl w.heap.size rfl 25 C (0, 0) _ hg1.out Try.underlying25 rfl (infoMap.trans hS.out) ?_)
    | (refine wpList_load_row rfl 25 (.tmp 3) rfl (w.heap.size + 1) rfl 25 D (0, 0) _ hg2.out Try.underlying25 rfl (infoMap.trans hT.out) ?_)
    | (go_at_call 40; (refine (HTG.out _).mono ?_); rintro e w1 ⟨rfl, hb1⟩; have M1 := Lib.hid (HM.out.below hb1 HM.out.lt); have M2 := Lib.hid (HM2.out.below hb1 HM2.out.lt); have k0 := M1.out.c0))
  have hbA : Below w.heap.size w w1 := HBL.out.trans (hb1.mono HBL.out.size)
  go_loop [5, 6, 14] (fun m f i => ∃ k : Nat, k ≤ p ∧ i = .int .i64 k ∧ m = .int .i64 ((runF U V k).1 : Nat) ∧ f = .int .i64 ((runF U V k).2 : Nat)) (fun _ _ i => p - (intOf i).toNat)
  case atStart => exact ⟨0, by omega, rfl, rfl, rfl⟩
  case round =>
    obtain ⟨k, hk, rfl, rfl, rfl⟩ := hrel
    by_cases hlt : k < p
    · have hc := M1.out.cs k (by omega)
      have hd := M2.out.cs k (by omega)
      obtain ⟨u, hu⟩ : ∃ u, u = U.getD k false := ⟨_, rfl⟩
      obtain ⟨v, hv⟩ : ∃ v, v = V.getD k false := ⟨_, rfl⟩
      have hle := runF_le U V k
      obtain ⟨rm, hrm⟩ : ∃ rm, rm = (runF U V k).1 := ⟨_, rfl⟩
      obtain ⟨rf, hrf⟩ : ∃ rf, rf = (runF U V k).2 := ⟨_, rfl⟩
      have hst : runF U V (k + 1) = (max rm (if u || v then 0 else rf + 1), if u || v then 0 else rf + 1) := by rw [hu, hv, hrm, hrf]; rfl
      rw [← hu] at hc
      rw [← hv] at hd
      rw [← hrm, ← hrf] at hle ⊢
      obtain ⟨hle1, hle2⟩ := hle
      have HST := Lib.hid hst
      clear hu hv hst hrm hrf
      cases u <;> cases v
      all_goals
        go_wp2_with fail
        go_round
        case rel => exact ⟨k + 1, by omega, by go_num, by rw [HST.out]; simp; try omega, by rw [HST.out]; simp⟩
        case measure => simp [intOf]; omega
    · obtain rfl : k = p := by omega
      go_wp2_with fail
      go_ret
      exact ⟨by rw [HF.out]; rfl, hbA⟩
end Go.Proofs.Ytobfepkeikecoaa
