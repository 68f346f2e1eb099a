/- Take of package bitmap. -/
import Derived.Test.YtobfepkeikecoaaBmU
namespace Go.Proofs.Ytobfepkeikecoaa
open Go.RowKit
set_option linter.unusedVariables false

theorem results_cell_tmp {P : Program} {fn : Func} {p u : Tmp} {ty : TypeId} (h : fn.results = #[.cell p ty, .tmp u]) (tmps : Array Value) (w : World) (g : Nat) (t : TypeId) (cs : Array Value) (fr : Nat × Nat) (d : TypeDesc)
    (hp : tmps.getD p undef = .pointer (some ⟨g, 0, none⟩)) (hg : w.heap[g]? = some (.cells cs t fr))
    (hu : P.underlying ty = some d) (hd : (match d with | .struct _ | .array _ _ => true | _ => false) = true) (hi : (P.info? ty).map (·.size) = some cs.size) :
    (results fn tmps).run P w = .ok (.tuple #[.agg cs, tmps.getD u undef]) w := by
  have hp' : tmps[p]?.getD undef = .pointer (some ⟨g, 0, none⟩) := by simpa using hp
  simp [results, h, hp', asAddr, run_loadVar_row w g t ty cs fr d hg hu hd hi]
theorem results_cell_tmp3 {P : Program} {fn : Func} {p u v : Tmp} {ty : TypeId} (h : fn.results = #[.cell p ty, .tmp u, .tmp v]) (tmps : Array Value) (w : World) (g : Nat) (t : TypeId) (cs : Array Value) (fr : Nat × Nat) (d : TypeDesc)
    (hp : tmps.getD p undef = .pointer (some ⟨g, 0, none⟩)) (hg : w.heap[g]? = some (.cells cs t fr))
    (hu : P.underlying ty = some d) (hd : (match d with | .struct _ | .array _ _ => true | _ => false) = true) (hi : (P.info? ty).map (·.size) = some cs.size) :
    (results fn tmps).run P w = .ok (.tuple #[.agg cs, tmps.getD u undef, tmps.getD v undef]) w := by
  have hp' : tmps[p]?.getD undef = .pointer (some ⟨g, 0, none⟩) := by simpa using hp
  simp [results, h, hp', asAddr, run_loadVar_row w g t ty cs fr d hg hu hd hi]

/-- Nothing fits that ends at k at most, and the last f pages ahead of k are free. -/
def takeInv (p : Nat) (U V : List Bool) (n k f : Nat) : Prop :=
  f ≤ k ∧ f < n ∧ (∀ j, k - f ≤ j → j < k → U.getD j false = false ∧ V.getD j false = false) ∧ (f = k ∨ U.getD (k - f - 1) false = true ∨ V.getD (k - f - 1) false = true) ∧ ∀ a, a + n ≤ k → ¬ fits p U V n a
theorem takeInv_used {p : Nat} {U V : List Bool} {n k f : Nat} (hn : 1 ≤ n) (h : takeInv p U V n k f) (hu : U.getD k false = true ∨ V.getD k false = true) : takeInv p U V n (k + 1) 0 := by
  obtain ⟨h1, h2, h3, h4, h5⟩ := h
  refine ⟨by omega, by omega, fun j _ _ => by omega, .inr (by simpa using hu), fun a ha hf => ?_⟩
  by_cases hk : a + n ≤ k
  · exact h5 a hk hf
  · have := hf.2 (k - a) (by omega)
    rw [show a + (k - a) = k by omega] at this
    rcases hu with e | e
    · rw [this.1] at e; cases e
    · rw [this.2] at e; cases e
theorem takeInv_free {p : Nat} {U V : List Bool} {n k f : Nat} (hn : f + 1 < n) (h : takeInv p U V n k f) (hu : U.getD k false = false ∧ V.getD k false = false) : takeInv p U V n (k + 1) (f + 1) := by
  obtain ⟨h1, h2, h3, h4, h5⟩ := h
  refine ⟨by omega, hn, fun j hj1 hj2 => ?_, ?_, fun a ha hf => ?_⟩
  · by_cases hj : j = k
    · rw [hj]; exact hu
    · exact h3 j (by omega) (by omega)
  · rcases h4 with e | e
    · exact .inl (by omega)
    · exact .inr (by rw [show k + 1 - (f + 1) - 1 = k - f - 1 by omega]; exact e)
  · by_cases hk : a + n ≤ k
    · exact h5 a hk hf
    · rcases h4 with e | e
      · omega
      · by_cases hfk : f = k
        · omega
        · have := hf.2 (k - f - 1 - a) (by omega)
          rw [show a + (k - f - 1 - a) = k - f - 1 by omega] at this
          rcases e with e | e
          · rw [this.1] at e; cases e
          · rw [this.2] at e; cases e
theorem takeInv_full {p : Nat} {U V : List Bool} {n k f : Nat} (hkp : k < p) (hn : f + 1 = n) (h : takeInv p U V n k f) (hu : U.getD k false = false ∧ V.getD k false = false) : fits p U V n (k + 1 - n) ∧ ∀ a, a < k + 1 - n → ¬ fits p U V n a := by
  obtain ⟨h1, h2, h3, h4, h5⟩ := h
  refine ⟨⟨by omega, fun j hj => ?_⟩, fun a ha hf => h5 a (by omega) hf⟩
  by_cases hj2 : k + 1 - n + j = k
  · rw [hj2]; exact hu
  · exact h3 _ (by omega) (by omega)

set_option maxHeartbeats 4000000 in
set_option maxRecDepth 100000 in
theorem take_bm (p : Nat) (U V : List Bool) (hU : U.length = 512) (hV : V.length = 512) (okU : okM (p : Int) U) (okV : okM (p : Int) V) (n : Nat) (hn1 : 1 ≤ n) (w : World) (C D : Array Value) (eC : C = mapC (p : Int) U) (eD : D = mapC (p : Int) V) :
    Calls Try.prog 12 #[.agg C, .agg D, .int .i64 (n : Int)] w fun e w' =>
      ((∃ a, fits p U V n a ∧ (∀ a', a' < a → ¬ fits p U V n a') ∧ e = .returned (.tuple #[.agg (mapC (p : Int) (markN U a true n)), .int .i64 (a : Int), .int .i64 0])) ∨ ((∀ a, ¬ fits p U V n a) ∧ e = .returned (.tuple #[.agg Try.zeroCells25, .int .i64 0, .int .i64 5]))) ∧ Below w.heap.size w w' := by
  have hp : p ≤ 512 := by have := okU.2.1; omega
  obtain ⟨hm, hm2, hbl⟩ := two_maps w eC eD
  have d1 : decide ((n : Int) < 1) = false := by simp; omega
  have hS : Hid (some 513 = some C.size) := Lib.hid (by rw [eC, size_mapC hU])
  have hT : Hid (some 513 = some D.size) := Lib.hid (by rw [eD, size_mapC hV])
  obtain ⟨W, eW⟩ : ∃ W, W = ((w.alloc (.cells C 25)).alloc (.cells D 25)).alloc (.cells Try.zeroCells25 25) := ⟨_, rfl⟩
  have HM : Hid (MapAt W w.heap.size 25 (p : Int) U) := Lib.hid (by rw [eW]; exact hm.alloc _)
  have HM2 : Hid (MapAt W (w.heap.size + 1) 25 (p : Int) V) := Lib.hid (by rw [eW]; exact hm2.alloc _)
  have HBL : Hid (Below w.heap.size w W) := Lib.hid (by rw [eW]; exact hbl.alloc (by simp; omega) _)
  have HZ : Hid (W.heap[w.heap.size + 2]? = some (.cells Try.zeroCells25 25 (0, 0))) := Lib.hid (by rw [eW]; have := heap_alloc_new ((w.alloc (.cells C 25)).alloc (.cells D 25)) (.cells Try.zeroCells25 25); simpa using this)
  have hg1 : Hid (W.heap[w.heap.size]? = some (.cells C 25 (0, 0))) := Lib.hid (by rw [eC]; exact HM.out)
  have hg2 : Hid (W.heap[w.heap.size + 1]? = some (.cells D 25 (0, 0))) := Lib.hid (by rw [eD]; exact HM2.out)
  have HTG := Lib.hid (fun W => together_bm (p : Int) (p : Int) U V hU hV W C D eC eD true (by simp [okU, okV]))
  have hWs : Hid (W.heap.size = w.heap.size + 3) := Lib.hid (by rw [eW]; simp)
  have HMK : Hid (∀ (a : Nat) (za : Int) (W : World), za = (a : Int) → a + n ≤ 512 → Calls Try.prog 39 #[.agg C, .int .i64 za, .int .i64 (n : Int), .bool true] W fun e w' => e = .returned (.agg (mapC (p : Int) (markN U a true n))) ∧ Below W.heap.size W w') := Lib.hid (fun a za W hza h => by rw [eC]; exact marked_any (p : Int) U hU za n a n hza rfl h true W)
  have HLM : Hid (∀ a, some 513 = some (mapC (p : Int) (markN U a true n)).size) := Lib.hid (fun a => by rw [size_mapC (by rw [length_markN, hU])])
  have EW := Lib.hid eW.symm
  clear hm hm2 hbl eC eD okU okV eW
  go_enter Try.func12, Try.ntmps12
  go_upto_region 1 with fail
  rw [EW.out]
  go_wp2_with (first
    | (refine wpList_load_row rfl 25 (.tmp 3) rfl w.heap.size rfl 25 C (0, 0) _ hg1.out Try.underlying25 rfl (infoMap.trans hS.out) ?_)
    | (refine wpList_load_row rfl 25 (.tmp 4) rfl (w.heap.size + 1) rfl 25 D (0, 0) _ hg2.out Try.underlying25 rfl (infoMap.trans hT.out) ?_)
    | (go_at_call 40; (refine (HTG.out _).mono ?_); rintro e w1 ⟨rfl, hb1⟩; have M1 := Lib.hid (HM.out.below hb1 HM.out.lt); have M2 := Lib.hid (HM2.out.below hb1 HM2.out.lt); have k0 := M1.out.c0))
  have hbA : Below w.heap.size w w1 := HBL.out.trans (hb1.mono HBL.out.size)
  have hs1 : w.heap.size + 3 ≤ w1.heap.size := by have := hb1.size; rw [hWs.out] at this; exact this
  have HZ1 := Lib.hid ((hb1.block _ (by rw [hWs.out]; omega)).trans HZ.out)
  have HG1 := Lib.hid ((hb1.block _ (by rw [hWs.out]; omega)).trans hg1.out)
  clear hb1
  go_loop [9, 23] (fun f i => ∃ k r : Nat, k ≤ p ∧ i = .int .i64 k ∧ f = .int .i64 r ∧ Hid (takeInv p U V n k r)) (fun _ i => p - (intOf i).toNat)
  case atStart => exact ⟨0, 0, by omega, rfl, rfl, Lib.hid ⟨Nat.le_refl _, by omega, fun j _ h => by omega, .inl rfl, fun a h => by omega⟩⟩
  case round =>
    obtain ⟨k, r, hk, rfl, rfl, hI⟩ := hrel
    have hrk : r ≤ k := hI.out.1
    by_cases hlt : k < p
    · have hc := M1.out.cs k (by omega)
      have hd := M2.out.cs k (by omega)
      obtain ⟨u, hu⟩ : ∃ u, u = U.getD k false := ⟨_, rfl⟩
      obtain ⟨v, hv⟩ : ∃ v, v = V.getD k false := ⟨_, rfl⟩
      rw [← hu] at hc
      rw [← hv] at hd
      have HU := Lib.hid hu
      have HV := Lib.hid hv
      clear hu hv
      cases u
      · cases v
        · by_cases hfn : r + 1 = n
          · have dn : ((r : Int) + 1 == (n : Int)) = true := by simp; omega
            obtain ⟨hfit, hleast⟩ := takeInv_full hlt hfn hI.out ⟨HU.out.symm, HV.out.symm⟩
            obtain ⟨a, ha⟩ : ∃ a, a = k + 1 - n := ⟨_, rfl⟩
            rw [← ha] at hfit hleast
            have hae : (k : Int) + 1 - (n : Int) = (a : Int) := by omega
            have HAE := Lib.hid hae
            have HFN := Lib.hid hfn
            have han : a + n ≤ 512 := by have := hfit.1; omega
            clear hae ha hfn
            obtain ⟨C', eC'⟩ : ∃ C', C' = mapC (p : Int) (markN U a true n) := ⟨_, rfl⟩
            have hS' : Hid (some 513 = some C'.size) := Lib.hid (by rw [eC']; exact HLM.out a)
            have hO' : Hid (C'.all (·.oneCell') = true) := Lib.hid (by rw [eC']; exact one_mapC _ _)
            have EC' := Lib.hid eC'
            have HMK' : Hid (∀ W : World, Calls Try.prog 39 #[.agg C, .int .i64 (a : Int), .int .i64 (n : Int), .bool true] W fun e w' => e = .returned (.agg C') ∧ Below W.heap.size W w') := Lib.hid (fun W => by rw [eC']; exact HMK.out a a W rfl han)
            clear eC'
            go_wp2_with (first
              | (refine wpList_load_row rfl 25 (.tmp 3) rfl w.heap.size rfl 25 C (0, 0) _ HG1.out Try.underlying25 rfl (infoMap.trans hS.out) ?_)
              | (rw [HAE.out]; go_at_call 39; (refine (HMK'.out _).mono ?_); rintro e w2 ⟨rfl, hb2⟩; have HZ2 := Lib.hid ((hb2.block _ (by omega)).trans HZ1.out))
              | (refine wpList_store_row rfl 25 (.tmp 6) (.tmp 48) rfl (w.heap.size + 2) C' rfl rfl 25 Try.zeroCells25 HZ2.out (infoMap.trans hS'.out) (size_zeroMap.trans (Option.some.inj hS'.out)) hO'.out ?_))
            refine bodyPost_ret (v := .tuple #[.agg C', .int .i64 (a : Int), .int .i64 0]) (results_cell_tmp3 (p := 6) (u := 7) (v := 8) (ty := 25) rfl _ _ (w.heap.size + 2) 25 C' (0, 0) _ rfl (setRow_heap _ _ Try.zeroCells25 _ _ _ HZ2.out) Try.underlying25 rfl (infoMap.trans hS'.out)) rfl ⟨.inl ⟨a, hfit, hleast, by rw [EC'.out]⟩, ?_⟩
            exact below_setRow (hbA.trans (hb2.mono hbA.size)) (by omega) _
          · have dn : ((r : Int) + 1 == (n : Int)) = false := by simp; omega
            have hI2 := Lib.hid (takeInv_free (by have := hI.out.2.1; omega) hI.out ⟨HU.out.symm, HV.out.symm⟩)
            clear hfn
            go_wp2_with fail
            go_round
            case rel => exact ⟨k + 1, r + 1, by omega, by go_num, by go_num, hI2⟩
            case measure => simp [intOf]; omega
        · have hI2 := Lib.hid (takeInv_used hn1 hI.out (.inr HV.out.symm))
          go_wp2_with fail
          go_round
          case rel => exact ⟨k + 1, 0, by omega, by go_num, rfl, hI2⟩
          case measure => simp [intOf]; omega
      · have hI2 := Lib.hid (takeInv_used hn1 hI.out (.inl HU.out.symm))
        go_wp2_with fail
        go_round
        case rel => exact ⟨k + 1, 0, by omega, by go_num, rfl, hI2⟩
        case measure => simp [intOf]; omega
    · obtain rfl : k = p := by omega
      have hno : Hid (∀ a, ¬ fits k U V n a) := Lib.hid (fun a hf => hI.out.2.2.2.2 a hf.1 hf)
      have hSz : some 513 = some (Try.zeroCells25).size := by rw [size_zeroMap]
      have hOz : (Try.zeroCells25).all (·.oneCell') = true := by rw [zeroMap]; exact one_mapC _ _
      have HSZ := Lib.hid hSz
      have HOZ := Lib.hid hOz
      clear hSz hOz
      go_wp2_with (refine wpList_store_row rfl 25 (.tmp 6) (.tmp 51) rfl (w.heap.size + 2) Try.zeroCells25 rfl rfl 25 Try.zeroCells25 HZ1.out (infoMap.trans HSZ.out) rfl HOZ.out ?_)
      refine bodyPost_ret (v := .tuple #[.agg Try.zeroCells25, .int .i64 0, .int .i64 5]) (results_cell_tmp3 (p := 6) (u := 7) (v := 8) (ty := 25) rfl _ _ (w.heap.size + 2) 25 Try.zeroCells25 (0, 0) _ rfl (setRow_heap _ _ Try.zeroCells25 _ _ _ HZ1.out) Try.underlying25 rfl (infoMap.trans HSZ.out)) rfl ⟨.inr ⟨hno.out, rfl⟩, ?_⟩
      exact below_setRow hbA (by omega) _
end Go.Proofs.Ytobfepkeikecoaa
