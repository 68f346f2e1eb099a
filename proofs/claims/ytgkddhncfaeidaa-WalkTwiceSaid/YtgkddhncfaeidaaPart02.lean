/- Several texts in one: New, Free, Take, Give, Run of package bitmap. Free and Run of package bitmap. Take of package bitmap. The plain arithmetic of the sum of layer 2: a step, eight steps, a byte's step; that they are linear, that a byte's step by the table is eight steps of one bit. No program is named here. -/
import Derived.Test.YtgkddhncfaeidaaPart01
set_option linter.unusedSimpArgs false
set_option linter.unusedVariables false
namespace Go.Proofs.Ytgkddhncfaeidaa
open Go.RowKit
set_option linter.unusedVariables false



theorem built_map (z : Int) : (Try.zeroCells115).setIfInBounds 0 (.int .i64 z) = mapC z (List.replicate 512 false) := by rw [zeroMap]; unfold mapC; rw [List.setIfInBounds_toArray, List.set_cons_zero]

set_option maxHeartbeats 1000000 in
set_option maxRecDepth 100000 in
theorem new_bm (z : Int) (q : Nat) (hq : min (max z 8) 512 = (q : Int)) (w : World) :
    Calls Try.prog 55 #[.int .i64 z] w fun e w' => e = .returned (.agg (mapC (q : Int) map0)) ∧ Below w.heap.size w w' := by
  have HQ := Lib.hid hq
  clear hq
  obtain ⟨C0, eC0⟩ : ∃ C0, C0 = mapC (q : Int) (List.replicate 512 false) := ⟨_, rfl⟩
  have hbu : (Try.zeroCells115).setIfInBounds 0 (.int .i64 (q : Int)) = C0 := by rw [eC0]; exact built_map _
  have HBU := Lib.hid hbu
  have hS0 : Hid (some 513 = some C0.size) := Lib.hid (by rw [eC0, size_mapC List.length_replicate])
  have hO0 : Hid (C0.all (·.oneCell') = true) := Lib.hid (by rw [eC0]; exact one_mapC _ _)
  have EC0 := Lib.hid eC0
  obtain ⟨C1, eC1⟩ : ∃ C1, C1 = mapC (q : Int) map0 := ⟨_, rfl⟩
  have hS1 : Hid (some 513 = some C1.size) := Lib.hid (by rw [eC1, size_mapC length_map0])
  have hO1 : Hid (C1.all (·.oneCell') = true) := Lib.hid (by rw [eC1]; exact one_mapC _ _)
  have EC1 := Lib.hid eC1
  have hmk : Hid (∀ W : World, Calls Try.prog 75 #[.agg C0, .int .i64 0, .int .i64 2, .bool true] W fun e w' => e = .returned (.agg C1) ∧ Below W.heap.size W w') := Lib.hid (fun W => by rw [eC0, eC1]; exact marked_any (q : Int) (List.replicate 512 false) List.length_replicate 0 2 0 2 rfl rfl (by omega) true W)
  rw [← eC1]
  clear hbu eC0 eC1
  go_enter Try.func55, Try.ntmps55
  go_wp2_with (first
    | (rw [HQ.out, HBU.out]; refine wpList_store_row rfl 115 (.tmp 3) (.tmp 7) rfl (w.heap.size + 1) C0 rfl rfl 115 Try.zeroCells115 (heap_alloc2_new _ _ _) (infoMap.trans hS0.out) (size_zeroMap.trans (Option.some.inj hS0.out)) hO0.out ?_)
    | (refine wpList_load_row rfl 115 (.tmp 3) rfl (w.heap.size + 1) rfl 115 C0 (0, 0) _ (setRow_heap _ _ _ _ _ _ (heap_alloc2_new _ _ _)) Try.underlying115 rfl (infoMap.trans hS0.out) ?_)
    | (go_at_call 75; (refine (hmk.out _).mono ?_); rintro e w1 ⟨rfl, hb1⟩)
    | (refine wpList_store_row rfl 115 (.tmp 2) (.tmp 9) rfl w.heap.size C1 rfl rfl 115 Try.zeroCells115 ((hb1.block w.heap.size (by simp; omega)).trans ((setRow_other _ _ _ _ (by omega)).trans (heap_alloc2_old _ _ _))) (infoMap.trans hS1.out) (size_zeroMap.trans (Option.some.inj hS1.out)) hO1.out ?_))
  have hb2 : Below w.heap.size w w1 := ((((Below.refl _ _).alloc (Nat.le_refl _) _).alloc (by simp) _ : Below w.heap.size w ((w.alloc (.cells Try.zeroCells115 115)).alloc (.cells Try.zeroCells115 115)))).trans ((below_setRow (Below.refl _ _) (Nat.le_succ _) C0).trans (hb1.mono (by simp; omega)))
  have hz1 := (hb1.block w.heap.size (by simp; omega)).trans ((setRow_other _ _ _ _ (by omega)).trans (heap_alloc2_old _ _ _))
  exact bodyPost_ret (v := .agg C1) (results_cell_row (p := 2) (ty := 115) rfl _ _ w.heap.size 115 C1 (0, 0) _ rfl (setRow_heap _ _ Try.zeroCells115 _ _ _ hz1) Try.underlying115 rfl (infoMap.trans hS1.out)) rfl ⟨rfl, below_setRow hb2 (Nat.le_refl _) _⟩
end Go.Proofs.Ytgkddhncfaeidaa

namespace Go.Proofs.Ytgkddhncfaeidaa
open Go.RowKit
set_option linter.unusedVariables false

/-- Two maps side by side, as a call of two begins. -/
theorem two_maps {p q : Int} {U V : List Bool} {C D : Array Value} (w : World) (eC : C = mapC p U) (eD : D = mapC q V) :
    MapAt ((w.alloc (.cells C 115)).alloc (.cells D 115)) w.heap.size 115 p U ∧ MapAt ((w.alloc (.cells C 115)).alloc (.cells D 115)) (w.heap.size + 1) 115 q V ∧ Below w.heap.size w ((w.alloc (.cells C 115)).alloc (.cells D 115)) := by
  refine ⟨by rw [eC]; exact (MapAt.new w _ p U).alloc _, by rw [eD]; have := MapAt.new (w.alloc (.cells C 115)) 115 q V; simpa using this, ((Below.refl _ _).alloc (Nat.le_refl _) _).alloc (by simp) _⟩

end Go.Proofs.Ytgkddhncfaeidaa

namespace Go.Proofs.Ytgkddhncfaeidaa
open Go.RowKit
set_option linter.unusedVariables false

theorem results_cell_tmpB {P : Program} {fn : Func} {p u : Tmp} {ty : TypeId} (h : fn.results = #[.cell p ty, .tmp u]) (tmps : Array Value) (w : World) (g : Nat) (t : TypeId) (cs : Array Value) (fr : Nat × Nat) (d : TypeDesc)
    (hp : tmps.getD p undef = .pointer (some ⟨g, 0, none⟩)) (hg : w.heap[g]? = some (.cells cs t fr))
    (hu : P.underlying ty = some d) (hd : (match d with | .struct _ | .array _ _ => true | _ => false) = true) (hi : (P.info? ty).map (·.size) = some cs.size) :
    (results fn tmps).run P w = .ok (.tuple #[.agg cs, tmps.getD u undef]) w := by
  have hp' : tmps[p]?.getD undef = .pointer (some ⟨g, 0, none⟩) := by simpa using hp
  simp [results, h, hp', asAddr, run_loadVar_row w g t ty cs fr d hg hu hd hi]
theorem results_cell_tmp3 {P : Program} {fn : Func} {p u v : Tmp} {ty : TypeId} (h : fn.results = #[.cell p ty, .tmp u, .tmp v]) (tmps : Array Value) (w : World) (g : Nat) (t : TypeId) (cs : Array Value) (fr : Nat × Nat) (d : TypeDesc)
    (hp : tmps.getD p undef = .pointer (some ⟨g, 0, none⟩)) (hg : w.heap[g]? = some (.cells cs t fr))
    (hu : P.underlying ty = some d) (hd : (match d with | .struct _ | .array _ _ => true | _ => false) = true) (hi : (P.info? ty).map (·.size) = some cs.size) :
    (results fn tmps).run P w = .ok (.tuple #[.agg cs, tmps.getD u undef, tmps.getD v undef]) w := by
  have hp' : tmps[p]?.getD undef = .pointer (some ⟨g, 0, none⟩) := by simpa using hp
  simp [results, h, hp', asAddr, run_loadVar_row w g t ty cs fr d hg hu hd hi]

/-- Nothing fits that ends at k at most, and the last f pages ahead of k are free. -/
def takeInv (p : Nat) (U V : List Bool) (n k f : Nat) : Prop :=
  f ≤ k ∧ f < n ∧ (∀ j, k - f ≤ j → j < k → U.getD j false = false ∧ V.getD j false = false) ∧ (f = k ∨ U.getD (k - f - 1) false = true ∨ V.getD (k - f - 1) false = true) ∧ ∀ a, a + n ≤ k → ¬ fits p U V n a
theorem takeInv_used {p : Nat} {U V : List Bool} {n k f : Nat} (hn : 1 ≤ n) (h : takeInv p U V n k f) (hu : U.getD k false = true ∨ V.getD k false = true) : takeInv p U V n (k + 1) 0 := by
  obtain ⟨h1, h2, h3, h4, h5⟩ := h
  refine ⟨by omega, by omega, fun j _ _ => by omega, .inr (by simpa using hu), fun a ha hf => ?_⟩
  by_cases hk : a + n ≤ k
  · exact h5 a hk hf
  · have := hf.2 (k - a) (by omega)
    rw [show a + (k - a) = k by omega] at this
    rcases hu with e | e
    · rw [this.1] at e; cases e
    · rw [this.2] at e; cases e
theorem takeInv_free {p : Nat} {U V : List Bool} {n k f : Nat} (hn : f + 1 < n) (h : takeInv p U V n k f) (hu : U.getD k false = false ∧ V.getD k false = false) : takeInv p U V n (k + 1) (f + 1) := by
  obtain ⟨h1, h2, h3, h4, h5⟩ := h
  refine ⟨by omega, hn, fun j hj1 hj2 => ?_, ?_, fun a ha hf => ?_⟩
  · by_cases hj : j = k
    · rw [hj]; exact hu
    · exact h3 j (by omega) (by omega)
  · rcases h4 with e | e
    · exact .inl (by omega)
    · exact .inr (by rw [show k + 1 - (f + 1) - 1 = k - f - 1 by omega]; exact e)
  · by_cases hk : a + n ≤ k
    · exact h5 a hk hf
    · rcases h4 with e | e
      · omega
      · by_cases hfk : f = k
        · omega
        · have := hf.2 (k - f - 1 - a) (by omega)
          rw [show a + (k - f - 1 - a) = k - f - 1 by omega] at this
          rcases e with e | e
          · rw [this.1] at e; cases e
          · rw [this.2] at e; cases e
theorem takeInv_full {p : Nat} {U V : List Bool} {n k f : Nat} (hkp : k < p) (hn : f + 1 = n) (h : takeInv p U V n k f) (hu : U.getD k false = false ∧ V.getD k false = false) : fits p U V n (k + 1 - n) ∧ ∀ a, a < k + 1 - n → ¬ fits p U V n a := by
  obtain ⟨h1, h2, h3, h4, h5⟩ := h
  refine ⟨⟨by omega, fun j hj => ?_⟩, fun a ha hf => h5 a (by omega) hf⟩
  by_cases hj2 : k + 1 - n + j = k
  · rw [hj2]; exact hu
  · exact h3 _ (by omega) (by omega)

set_option maxHeartbeats 4000000 in
set_option maxRecDepth 100000 in
theorem take_bm (p : Nat) (U V : List Bool) (hU : U.length = 512) (hV : V.length = 512) (okU : okM (p : Int) U) (okV : okM (p : Int) V) (n : Nat) (hn1 : 1 ≤ n) (w : World) (C D : Array Value) (eC : C = mapC (p : Int) U) (eD : D = mapC (p : Int) V) :
    Calls Try.prog 109 #[.agg C, .agg D, .int .i64 (n : Int)] w fun e w' =>
      ((∃ a, fits p U V n a ∧ (∀ a', a' < a → ¬ fits p U V n a') ∧ e = .returned (.tuple #[.agg (mapC (p : Int) (markN U a true n)), .int .i64 (a : Int), .int .i64 0])) ∨ ((∀ a, ¬ fits p U V n a) ∧ e = .returned (.tuple #[.agg Try.zeroCells115, .int .i64 0, .int .i64 5]))) ∧ Below w.heap.size w w' := by
  have hp : p ≤ 512 := by have := okU.2.1; omega
  obtain ⟨hm, hm2, hbl⟩ := two_maps w eC eD
  have d1 : decide ((n : Int) < 1) = false := by simp; omega
  have hS : Hid (some 513 = some C.size) := Lib.hid (by rw [eC, size_mapC hU])
  have hT : Hid (some 513 = some D.size) := Lib.hid (by rw [eD, size_mapC hV])
  obtain ⟨W, eW⟩ : ∃ W, W = ((w.alloc (.cells C 115)).alloc (.cells D 115)).alloc (.cells Try.zeroCells115 115) := ⟨_, rfl⟩
  have HM : Hid (MapAt W w.heap.size 115 (p : Int) U) := Lib.hid (by rw [eW]; exact hm.alloc _)
  have HM2 : Hid (MapAt W (w.heap.size + 1) 115 (p : Int) V) := Lib.hid (by rw [eW]; exact hm2.alloc _)
  have HBL : Hid (Below w.heap.size w W) := Lib.hid (by rw [eW]; exact hbl.alloc (by simp; omega) _)
  have HZ : Hid (W.heap[w.heap.size + 2]? = some (.cells Try.zeroCells115 115 (0, 0))) := Lib.hid (by rw [eW]; have := heap_alloc_new ((w.alloc (.cells C 115)).alloc (.cells D 115)) (.cells Try.zeroCells115 115); simpa using this)
  have hg1 : Hid (W.heap[w.heap.size]? = some (.cells C 115 (0, 0))) := Lib.hid (by rw [eC]; exact HM.out)
  have hg2 : Hid (W.heap[w.heap.size + 1]? = some (.cells D 115 (0, 0))) := Lib.hid (by rw [eD]; exact HM2.out)
  have HTG := Lib.hid (fun W => together_bm (p : Int) (p : Int) U V hU hV W C D eC eD true (by simp [okU, okV]))
  have hWs : Hid (W.heap.size = w.heap.size + 3) := Lib.hid (by rw [eW]; simp)
  have HMK : Hid (∀ (a : Nat) (za : Int) (W : World), za = (a : Int) → a + n ≤ 512 → Calls Try.prog 75 #[.agg C, .int .i64 za, .int .i64 (n : Int), .bool true] W fun e w' => e = .returned (.agg (mapC (p : Int) (markN U a true n))) ∧ Below W.heap.size W w') := Lib.hid (fun a za W hza h => by rw [eC]; exact marked_any (p : Int) U hU za n a n hza rfl h true W)
  have HLM : Hid (∀ a, some 513 = some (mapC (p : Int) (markN U a true n)).size) := Lib.hid (fun a => by rw [size_mapC (by rw [length_markN, hU])])
  have EW := Lib.hid eW.symm
  clear hm hm2 hbl eC eD okU okV eW
  go_enter Try.func109, Try.ntmps109
  go_upto_region 1 with fail
  rw [EW.out]
  go_wp2_with (first
    | (refine wpList_load_row rfl 115 (.tmp 3) rfl w.heap.size rfl 115 C (0, 0) _ hg1.out Try.underlying115 rfl (infoMap.trans hS.out) ?_)
    | (refine wpList_load_row rfl 115 (.tmp 4) rfl (w.heap.size + 1) rfl 115 D (0, 0) _ hg2.out Try.underlying115 rfl (infoMap.trans hT.out) ?_)
    | (go_at_call 119; (refine (HTG.out _).mono ?_); rintro e w1 ⟨rfl, hb1⟩; have M1 := Lib.hid (HM.out.below hb1 HM.out.lt); have M2 := Lib.hid (HM2.out.below hb1 HM2.out.lt); have k0 := M1.out.c0))
  have hbA : Below w.heap.size w w1 := HBL.out.trans (hb1.mono HBL.out.size)
  have hs1 : w.heap.size + 3 ≤ w1.heap.size := by have := hb1.size; rw [hWs.out] at this; exact this
  have HZ1 := Lib.hid ((hb1.block _ (by rw [hWs.out]; omega)).trans HZ.out)
  have HG1 := Lib.hid ((hb1.block _ (by rw [hWs.out]; omega)).trans hg1.out)
  clear hb1
  go_loop [9, 23] (fun f i => ∃ k r : Nat, k ≤ p ∧ i = .int .i64 k ∧ f = .int .i64 r ∧ Hid (takeInv p U V n k r)) (fun _ i => p - (intOf i).toNat)
  case atStart => exact ⟨0, 0, by omega, rfl, rfl, Lib.hid ⟨Nat.le_refl _, by omega, fun j _ h => by omega, .inl rfl, fun a h => by omega⟩⟩
  case round =>
    obtain ⟨k, r, hk, rfl, rfl, hI⟩ := hrel
    have hrk : r ≤ k := hI.out.1
    by_cases hlt : k < p
    · have hc := M1.out.cs k (by omega)
      have hd := M2.out.cs k (by omega)
      obtain ⟨u, hu⟩ : ∃ u, u = U.getD k false := ⟨_, rfl⟩
      obtain ⟨v, hv⟩ : ∃ v, v = V.getD k false := ⟨_, rfl⟩
      rw [← hu] at hc
      rw [← hv] at hd
      have HU := Lib.hid hu
      have HV := Lib.hid hv
      clear hu hv
      cases u
      · cases v
        · by_cases hfn : r + 1 = n
          · have dn : ((r : Int) + 1 == (n : Int)) = true := by simp; omega
            obtain ⟨hfit, hleast⟩ := takeInv_full hlt hfn hI.out ⟨HU.out.symm, HV.out.symm⟩
            obtain ⟨a, ha⟩ : ∃ a, a = k + 1 - n := ⟨_, rfl⟩
            rw [← ha] at hfit hleast
            have hae : (k : Int) + 1 - (n : Int) = (a : Int) := by omega
            have HAE := Lib.hid hae
            have HFN := Lib.hid hfn
            have han : a + n ≤ 512 := by have := hfit.1; omega
            clear hae ha hfn
            obtain ⟨C', eC'⟩ : ∃ C', C' = mapC (p : Int) (markN U a true n) := ⟨_, rfl⟩
            have hS' : Hid (some 513 = some C'.size) := Lib.hid (by rw [eC']; exact HLM.out a)
            have hO' : Hid (C'.all (·.oneCell') = true) := Lib.hid (by rw [eC']; exact one_mapC _ _)
            have EC' := Lib.hid eC'
            have HMK' : Hid (∀ W : World, Calls Try.prog 75 #[.agg C, .int .i64 (a : Int), .int .i64 (n : Int), .bool true] W fun e w' => e = .returned (.agg C') ∧ Below W.heap.size W w') := Lib.hid (fun W => by rw [eC']; exact HMK.out a a W rfl han)
            clear eC'
            go_wp2_with (first
              | (refine wpList_load_row rfl 115 (.tmp 3) rfl w.heap.size rfl 115 C (0, 0) _ HG1.out Try.underlying115 rfl (infoMap.trans hS.out) ?_)
              | (rw [HAE.out]; go_at_call 75; (refine (HMK'.out _).mono ?_); rintro e w2 ⟨rfl, hb2⟩; have HZ2 := Lib.hid ((hb2.block _ (by omega)).trans HZ1.out))
              | (refine wpList_store_row rfl 115 (.tmp 6) (.tmp 48) rfl (w.heap.size + 2) C' rfl rfl 115 Try.zeroCells115 HZ2.out (infoMap.trans hS'.out) (size_zeroMap.trans (Option.some.inj hS'.out)) hO'.out ?_))
            refine bodyPost_ret (v := .tuple #[.agg C', .int .i64 (a : Int), .int .i64 0]) (results_cell_tmp3 (p := 6) (u := 7) (v := 8) (ty := 115) rfl _ _ (w.heap.size + 2) 115 C' (0, 0) _ rfl (setRow_heap _ _ Try.zeroCells115 _ _ _ HZ2.out) Try.underlying115 rfl (infoMap.trans hS'.out)) rfl ⟨.inl ⟨a, hfit, hleast, by rw [EC'.out]⟩, ?_⟩
            exact below_setRow (hbA.trans (hb2.mono hbA.size)) (by omega) _
          · have dn : ((r : Int) + 1 == (n : Int)) = false := by simp; omega
            have hI2 := Lib.hid (takeInv_free (by have := hI.out.2.1; omega) hI.out ⟨HU.out.symm, HV.out.symm⟩)
            clear hfn
            go_wp2_with fail
            go_round
            case rel => exact ⟨k + 1, r + 1, by omega, by go_num, by go_num, hI2⟩
            case measure => simp [intOf]; omega
        · have hI2 := Lib.hid (takeInv_used hn1 hI.out (.inr HV.out.symm))
          go_wp2_with fail
          go_round
          case rel => exact ⟨k + 1, 0, by omega, by go_num, rfl, hI2⟩
          case measure => simp [intOf]; omega
      · have hI2 := Lib.hid (takeInv_used hn1 hI.out (.inl HU.out.symm))
        go_wp2_with fail
        go_round
        case rel => exact ⟨k + 1, 0, by omega, by go_num, rfl, hI2⟩
        case measure => simp [intOf]; omega
    · obtain rfl : k = p := by omega
      have hno : Hid (∀ a, ¬ fits k U V n a) := Lib.hid (fun a hf => hI.out.2.2.2.2 a hf.1 hf)
      have hSz : some 513 = some (Try.zeroCells115).size := by rw [size_zeroMap]
      have hOz : (Try.zeroCells115).all (·.oneCell') = true := by rw [zeroMap]; exact one_mapC _ _
      have HSZ := Lib.hid hSz
      have HOZ := Lib.hid hOz
      clear hSz hOz
      go_wp2_with (refine wpList_store_row rfl 115 (.tmp 6) (.tmp 51) rfl (w.heap.size + 2) Try.zeroCells115 rfl rfl 115 Try.zeroCells115 HZ1.out (infoMap.trans HSZ.out) rfl HOZ.out ?_)
      refine bodyPost_ret (v := .tuple #[.agg Try.zeroCells115, .int .i64 0, .int .i64 5]) (results_cell_tmp3 (p := 6) (u := 7) (v := 8) (ty := 115) rfl _ _ (w.heap.size + 2) 115 Try.zeroCells115 (0, 0) _ rfl (setRow_heap _ _ Try.zeroCells115 _ _ _ HZ1.out) Try.underlying115 rfl (infoMap.trans HSZ.out)) rfl ⟨.inr ⟨hno.out, rfl⟩, ?_⟩
      exact below_setRow hbA (by omega) _
end Go.Proofs.Ytgkddhncfaeidaa

namespace Go.Proofs.Ytgkddhncfaeidaa
namespace CrcM

/-- What a bit 0 makes of a number. -/
def stp (x : BitVec 32) : BitVec 32 := if x.getLsbD 0 then (x >>> 1) ^^^ 2197175160#32 else x >>> 1

/-- So many steps. -/
def stps : Nat → BitVec 32 → BitVec 32
  | 0, x => x
  | k + 1, x => stp (stps k x)

/-- The table's place i. -/
def tb (i : Nat) : BitVec 32 := stps 8 (BitVec.ofNat 32 i)

/-- A byte's step by the table. -/
def byteStep (x : BitVec 32) (c : UInt8) : BitVec 32 := (x >>> 8) ^^^ tb ((x.toNat % 256) ^^^ c.toNat)

/-- A row of bytes. -/
def run (x : BitVec 32) (l : List UInt8) : BitVec 32 := l.foldl byteStep x

/-- Behind: of a sum, and bytes behind. -/
def behind (s : BitVec 32) (l : List UInt8) : BitVec 32 := ~~~ run (~~~ s) l

/-- The sum of bytes. -/
def sum (l : List UInt8) : BitVec 32 := behind 0 l

/-! ### Bit by bit over a row of bytes -/

/-! ### Three rows of one length -/

/-! ### Bits that are turned -/

/-! ### The same on plain numbers below 4294967296: as the walks carry them -/

def stpN (n : Nat) : Nat := (stp (BitVec.ofNat 32 n)).toNat
def stpsN (k n : Nat) : Nat := (stps k (BitVec.ofNat 32 n)).toNat
def tbN (i : Nat) : Nat := (tb i).toNat
def byteN (n : Nat) (c : UInt8) : Nat := (byteStep (BitVec.ofNat 32 n) c).toNat
def rowN (n : Nat) (l : List UInt8) : Nat := (run (BitVec.ofNat 32 n) l).toNat
def behindN (n : Nat) (l : List UInt8) : Nat := (behind (BitVec.ofNat 32 n) l).toNat
def sumN (l : List UInt8) : Nat := (sum l).toNat

theorem stpsN_lt (k n : Nat) : stpsN k n < 4294967296 := (stps k (BitVec.ofNat 32 n)).isLt
theorem tbN_lt (i : Nat) : tbN i < 4294967296 := (tb i).isLt
theorem rowN_lt (n : Nat) (l : List UInt8) : rowN n l < 4294967296 := (run (BitVec.ofNat 32 n) l).isLt
theorem sumN_lt (l : List UInt8) : sumN l < 4294967296 := (sum l).isLt

theorem stpsN_zero {n : Nat} (h : n < 4294967296) : stpsN 0 n = n := by
  simp only [stpsN, stps, BitVec.toNat_ofNat]
  exact Nat.mod_eq_of_lt h
theorem stpsN_succ (k n : Nat) : stpN (stpsN k n) = stpsN (k + 1) n := by
  simp only [stpN, stpsN, stps, BitVec.ofNat_toNat, BitVec.setWidth_eq]
theorem stpsN_tb (i : Nat) : stpsN 8 i = tbN i := rfl
theorem rowN_nil {n : Nat} (h : n < 4294967296) : rowN n [] = n := by
  simp only [rowN, run, List.foldl_nil, BitVec.toNat_ofNat]
  exact Nat.mod_eq_of_lt h
theorem rowN_snoc (n : Nat) (l : List UInt8) (c : UInt8) : byteN (rowN n l) c = rowN n (l ++ [c]) := by
  simp only [byteN, rowN, BitVec.ofNat_toNat, BitVec.setWidth_eq, run, List.foldl_append, List.foldl_cons, List.foldl_nil]
theorem notN {n : Nat} (h : n < 4294967296) : (~~~ BitVec.ofNat 32 n).toNat = 4294967295 - n := by
  rw [BitVec.toNat_not, BitVec.toNat_ofNat, Nat.mod_eq_of_lt h]
theorem behindN_eq {n : Nat} (h : n < 4294967296) (l : List UInt8) : behindN n l = 4294967295 - rowN (4294967295 - n) l := by
  unfold behindN behind rowN
  have e : ~~~ BitVec.ofNat 32 n = BitVec.ofNat 32 (4294967295 - n) := by
    apply BitVec.eq_of_toNat_eq
    rw [notN h, BitVec.toNat_ofNat, Nat.mod_eq_of_lt (by omega)]
  rw [e, BitVec.toNat_not]
end CrcM
end Go.Proofs.Ytgkddhncfaeidaa
