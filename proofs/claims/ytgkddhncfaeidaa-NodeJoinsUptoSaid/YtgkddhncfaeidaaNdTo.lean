/- Nodes turned into the reference's, and back. -/
import Derived.Test.YtgkddhncfaeidaaNdZ
namespace Go.Proofs.Ytgkddhncfaeidaa
open Go.ChangeShapes Go.WideShapes Go.ChangeAt Go.RowKit CrcM PageM
set_option linter.unusedVariables false

theorem array4N {α : Type} {cs : Array α} (h : cs.size = 4) : ∃ a b c d, cs = #[a, b, c, d] := by
  obtain ⟨l⟩ := cs
  match l, h with
  | [a, b, c, d], _ => exact ⟨a, b, c, d, rfl⟩
theorem infoIntN : (Try.prog.info? 3).map (fun i => (i.zero, i.size, i.bytes)) = some (some (.int .i64 0), 1, 8) := by kernel_rfl
theorem infoEnt_to_any : (Try.prog.info? 77).map (fun i => (i.zero, i.size, i.bytes)) = some (some (.agg #[.int .i64 0, .int .i64 0, .int .i64 0, .int .i64 0, .int .i64 0, .int .i64 0, .int .i64 0, .int .u32 0]), 8, 64) := by kernel_rfl
theorem infoKey_to_any : (Try.prog.info? 46).map (fun i => (i.zero, i.size, i.bytes)) = some (some (.agg #[.int .i64 0, .int .i64 0]), 2, 16) := by kernel_rfl
theorem infoEnt_from_any : (Try.prog.info? 51).map (fun i => (i.zero, i.size, i.bytes)) = some (some (.agg #[.int .i64 0, .int .i64 0, .int .i64 0, .int .i64 0, .int .i64 0, .int .i64 0, .int .i64 0, .int .u32 0]), 8, 64) := by kernel_rfl
theorem infoKey_from_any : (Try.prog.info? 48).map (fun i => (i.zero, i.size, i.bytes)) = some (some (.agg #[.int .i64 0, .int .i64 0]), 2, 16) := by kernel_rfl

set_option maxRecDepth 100000 in
set_option maxHeartbeats 8000000 in
theorem to_any (n : NodeD) (l : NdL) (w : World) (h : NodeAt w n l) (hE8 : n.es.length * 64 ≤ 140737488355328) (hK8 : n.ks.length * 16 ≤ 140737488355328) (hD8 : n.ds.length * 8 ≤ 140737488355328) :
    Calls Try.prog 10 #[.agg #[.bool n.leaf, .slice l.EA n.es.length l.ec, .slice l.KA n.ks.length l.kc, .slice l.DA n.ds.length l.dc]] w fun e w' => ∃ l' : NdL, e = .returned (.agg #[.bool n.leaf, .slice l'.EA n.es.length l'.ec, .slice l'.KA n.ks.length l'.kc, .slice l'.DA n.ds.length l'.dc]) ∧ NodeAt w' n l' ∧ Below w.heap.size w w' := by
  obtain ⟨lf, es, ks, ds⟩ := n
  obtain ⟨EA, ec, KA, kc, DA, dc⟩ := l
  dsimp only
  have hem : es.length ≤ maxLen := Nat.le_trans h.ec h.em
  have hkm : ks.length ≤ maxLen := Nat.le_trans h.kc h.km
  have hdm : ds.length ≤ maxLen := Nat.le_trans h.dc h.dm
  obtain ⟨ne, hne⟩ : ∃ x, es.length = x := ⟨_, rfl⟩
  obtain ⟨nk, hnk⟩ : ∃ x, ks.length = x := ⟨_, rfl⟩
  obtain ⟨nd, hnd⟩ : ∃ x, ds.length = x := ⟨_, rfl⟩
  dsimp only at hE8 hK8 hD8
  rw [hne] at hem hE8
  rw [hnk] at hkm hK8
  rw [hnd] at hdm hD8
  have HE8 := Lib.hid hE8
  have HK8 := Lib.hid hK8
  have HD8 := Lib.hid hD8
  rw [hne, hnk, hnd]
  have H := Lib.hid h
  have HNE := Lib.hid hne
  have HNK := Lib.hid hnk
  have HND := Lib.hid hnd
  have HEM := Lib.hid hem
  have HKM := Lib.hid hkm
  have HDM := Lib.hid hdm
  unfold maxLen at hem hkm hdm
  obtain ⟨W, eW⟩ : ∃ W, W = (w.alloc (.cells #[.bool lf, .slice EA ne ec, .slice KA nk kc, .slice DA nd dc] 26)).alloc (.cells #[.bool false, .slice none 0 0, .slice none 0 0, .slice none 0 0] 34) := ⟨_, rfl⟩
  have hr1 : W.heap[w.heap.size]? = some (.cells #[.bool lf, .slice EA ne ec, .slice KA nk kc, .slice DA nd dc] 26 (0, 0)) := by rw [eW]; exact heap_alloc2_old _ _ _
  have hr2 : W.heap[w.heap.size + 1]? = some (.cells #[.bool false, .slice none 0 0, .slice none 0 0, .slice none 0 0] 34 (0, 0)) := by rw [eW]; exact heap_alloc2_new _ _ _
  have hb : Below w.heap.size w W := by rw [eW]; exact below_two (Below.refl _ _)
  have hWs : W.heap.size = w.heap.size + 2 := by rw [eW]; simp
  have EW := Lib.hid eW.symm
  have HB := Lib.hid hb
  have HR1 := Lib.hid hr1
  have HR2 := Lib.hid hr2
  have HWS := Lib.hid hWs
  obtain ⟨ie, hie, hiez, hies, hieb⟩ := info_parts (infoEnt_to_any)
  obtain ⟨ik, hik, hikz, hiks, hikb⟩ := info_parts (infoKey_to_any)
  obtain ⟨ii, hii, hiiz, hiis, hiib⟩ := info_parts infoIntN
  clear h hne hnk hnd eW hb hWs hE8 hK8 hD8
  go_enter Try.func10, Try.ntmps10
  go_upto_region 1 with fail
  rw [EW.out]
  have G0 : ∀ y : SubW W.heap.size W, y.at_.cell? ⟨w.heap.size, 0, none⟩ = some (.bool lf) := fun y => nd_cell ((y.ok_.block _ (Array.getElem?_eq_some_iff.1 hr1).1).trans hr1) 0 _ rfl
  have G3 : ∀ y : SubW W.heap.size W, y.at_.cell? ⟨w.heap.size, 3, none⟩ = some (.slice DA nd dc) := fun y => nd_cell ((y.ok_.block _ (Array.getElem?_eq_some_iff.1 hr1).1).trans hr1) 3 _ rfl
  clear hr1 hr2
  go_cut [3] from 6 to 12 (fun s wx => ∃ (g3 : Nat) (D : Option Addr) (c : Nat), s = .pointer (some ⟨g3, 0, none⟩) ∧ Hid (ToS w W wx 34 77 46 3 g3 lf (.slice none 0 0) (.slice none 0 0) (.slice D nd c) 0 0 nd es ks ds))
  case first =>
    refine region_ways4 W.heap.size (Nat.le_refl _) (.two [0, 1, 3, 4] 2 (.two [] 5 (.one [6] 7 (.one [] 8 (.done []))) 7 (.one [] 5 (.one [6] 8 (.done [])))) 7 (.one [] 2 (.one [] 5 (.one [6] 8 (.done []))))) (by kernel_rfl) (by kernel_rfl) ?_
    rintro wd hbd
    have BD := Lib.hid hbd
    clear hbd
    rw [wpWays_two4]
    try simp only [List.map_cons, List.map_nil, opAt, List.getElem?_toArray, List.getElem?_cons_zero, List.getElem?_cons_succ, Option.getD_some]
    repeat (go_big_quiet_step (fail))
    clear G0 G3
    refine wpQuiet_nil ⟨?_, ?_⟩
    · go_wp2_with fail
      have B1 := Lib.hid (BD.out.alloc BD.out.size (.cells #[] 3))
      have O1 : Hid (OwnV (wd.alloc (.cells #[] 3)) W.heap.size (.slice (some ⟨wd.heap.size, 0, none⟩) 0 0) 3 []) := Lib.hid (OwnV.new wd 3 [] W.heap.size BD.out.size (by unfold maxLen; simp))
      refine ⟨⟨⟨_, B1.out⟩, rfl⟩, ?_⟩
      try simp only [Act.put, List.setIfInBounds_toArray, List.set_cons_zero, List.set_cons_succ]
      rw [wpWays_two4]
      try simp only [List.map_nil, opAt, List.getElem?_toArray, List.getElem?_cons_zero, List.getElem?_cons_succ, Option.getD_some]
      refine wpQuiet_nil ⟨?_, ?_⟩
      · skip
        go_wp2_with (at_builtin; refine wpList_append_vz rfl (.tmp 8) (.tmp 10) 24 rfl Try.underlying24 (.int .i64 0) 8 infoIntN rfl rfl O1.out DA dc nd (ds.map kdC) (ds.map kdC) rfl (by rw [List.length_map, HND.out]) ((H.out.d.below (HB.out.trans (B1.out.mono (by have := HWS.out; omega)))).cells) (kdC_one ds) rfl (by have := HD8.out; simp; omega) (by have := HDM.out; simp; omega) B1.out.size ?_; intro D cD w5 ho5 hg5)
        have hdl : (ds.map kdC).length = nd := by rw [List.length_map, HND.out]
        rw [hdl] at ho5 ⊢
        clear hdl
        have HO5 : Hid (w5.ownsRow W.heap.size 3 1 (.slice D nd cD) nd (ds.map kdC)) := Lib.hid (by have h5 := ho5; unfold OwnV at h5; rw [List.length_map, HND.out] at h5; exact h5)
        have HB5 := Lib.hid (B1.out.grown hg5 B1.out.size (fun k hk => (World.ownsRow.lt O1.out k hk).1))
        clear ho5 hg5
        refine ⟨⟨⟨_, HB5.out⟩, rfl⟩, ?_⟩
        try simp only [Act.put, List.setIfInBounds_toArray, List.set_cons_zero, List.set_cons_succ]
        rw [wpWays_one4]
        try simp only [List.map_cons, List.map_nil, opAt, List.getElem?_toArray, List.getElem?_cons_zero, List.getElem?_cons_succ, Option.getD_some]
        repeat (go_big_quiet_step (fail))
        refine wpQuiet_nil ?_
        go_wp2_with fail
        have B7 := Lib.hid (HB5.out.alloc HB5.out.size (.cells #[.bool false, .slice none 0 0, .slice none 0 0, .slice none 0 0] 34))
        have B8 := Lib.hid (HB5.out.alloc HB5.out.size (.cells #[.bool lf, .slice none 0 0, .slice none 0 0, .slice D nd cD] 34))
        have R8 := Lib.hid (row_below HO5.out ((Below.refl _ _).alloc (Nat.le_refl _) (.cells #[.bool lf, .slice none 0 0, .slice none 0 0, .slice D nd cD] 34)))
        refine ⟨⟨⟨_, B7.out⟩, rfl⟩, ?_⟩
        try simp only [Act.put, List.setIfInBounds_toArray, List.set_cons_zero, List.set_cons_succ]
        rw [wpWays_one4]
        try simp only [List.map_nil, opAt, List.getElem?_toArray, List.getElem?_cons_zero, List.getElem?_cons_succ, Option.getD_some]
        refine wpQuiet_nil ?_
        go_wp2_with fail
        refine ⟨⟨⟨_, B8.out⟩, rfl⟩, ?_⟩
        try simp only [Act.put, List.setIfInBounds_toArray, List.set_cons_zero, List.set_cons_succ]
        rw [wpWays_done4]
        try simp only [List.map_nil]
        refine wpQuiet_nil ?_
        go_wp2_with fail
        go_meet
        exact ⟨_, D, cD, rfl, Lib.hid (ToS.start B8.out HWS.out HR2.out rfl (heap_alloc_new _ _) HB5.out.size R8.out ⟨by decide, by decide, by decide, by decide, by decide, by decide⟩)⟩
      · go_wp2_with fail
        obtain ⟨V, hV⟩ : ∃ V, V = (wd.alloc (.cells #[] 3)).alloc (.cells #[.bool false, .slice none 0 0, .slice none 0 0, .slice none 0 0] 34) := ⟨_, rfl⟩
        obtain ⟨g3, hg3⟩ : ∃ g3, g3 = wd.heap.size + 1 := ⟨_, rfl⟩
        obtain ⟨gk, hgk⟩ : ∃ gk, gk = wd.heap.size := ⟨_, rfl⟩
        have BV : Hid (Below W.heap.size W V) := Lib.hid (by rw [hV]; exact (BD.out.alloc BD.out.size _).alloc (by have := BD.out.size; simp; omega) _)
        have ZV : Hid (V.heap[g3]? = some (.cells #[.bool false, .slice none 0 0, .slice none 0 0, .slice none 0 0] 34 (0, 0))) := Lib.hid (by rw [hV, hg3]; exact heap_alloc2_new _ _ _)
        have OV : Hid (OwnV V W.heap.size (.slice (some ⟨gk, 0, none⟩) 0 0) 3 []) := Lib.hid (by rw [hV, hgk]; exact row_below (OwnV.new wd 3 [] W.heap.size BD.out.size (by unfold maxLen; simp)) ((Below.refl _ _).alloc (Nat.le_refl _) _))
        have GL : Hid (W.heap.size ≤ g3) := Lib.hid (by rw [hg3]; have := BD.out.size; omega)
        rw [← hV, ← hg3, ← hgk]
        clear hV hgk hg3 O1 B1
        refine ⟨⟨⟨_, BV.out⟩, rfl⟩, ?_⟩
        try simp only [Act.put, List.setIfInBounds_toArray, List.set_cons_zero, List.set_cons_succ]
        rw [wpWays_one4]
        try simp only [List.map_nil, opAt, List.getElem?_toArray, List.getElem?_cons_zero, List.getElem?_cons_succ, Option.getD_some]
        refine wpQuiet_nil ?_
        go_wp2_with (at_builtin; refine wpList_append_vz rfl (.tmp 8) (.tmp 10) 24 rfl Try.underlying24 (.int .i64 0) 8 infoIntN rfl rfl OV.out DA dc nd (ds.map kdC) (ds.map kdC) rfl (by rw [List.length_map, HND.out]) ((H.out.d.below (HB.out.trans (BV.out.mono (by have := HWS.out; omega)))).cells) (kdC_one ds) rfl (by have := HD8.out; simp; omega) (by have := HDM.out; simp; omega) BV.out.size ?_; intro D cD w5 ho5 hg5)
        have hdl : (ds.map kdC).length = nd := by rw [List.length_map, HND.out]
        rw [hdl] at ho5 ⊢
        clear hdl
        have HO5 : Hid (w5.ownsRow W.heap.size 3 1 (.slice D nd cD) nd (ds.map kdC)) := Lib.hid (by have h5 := ho5; unfold OwnV at h5; rw [List.length_map, HND.out] at h5; exact h5)
        have HB5 := Lib.hid (BV.out.grown hg5 BV.out.size (fun k hk => (World.ownsRow.lt OV.out k hk).1))
        have Z5 := Lib.hid ((typed_kept OV.out hg5 (by decide) ZV.out).trans ZV.out)
        clear ho5 hg5
        refine ⟨⟨⟨_, HB5.out⟩, rfl⟩, ?_⟩
        try simp only [Act.put, List.setIfInBounds_toArray, List.set_cons_zero, List.set_cons_succ]
        rw [wpWays_one4]
        try simp only [List.map_cons, List.map_nil, opAt, List.getElem?_toArray, List.getElem?_cons_zero, List.getElem?_cons_succ, Option.getD_some]
        repeat (go_big_quiet_step (fail))
        refine wpQuiet_nil ?_
        obtain ⟨p0, p1, p2, p3, f0, f1, f2, f3⟩ := four_cells Z5.out
        go_wp2_with fail
        have B8 := Lib.hid (below_set4 HB5.out GL.out (.bool lf) (.slice none 0 0) (.slice none 0 0) (.slice D nd cD))
        have R8 := Lib.hid (row_set4 (a := .bool lf) (b := .slice none 0 0) (c := .slice none 0 0) (d := .slice D nd cD) HO5.out Z5.out (by decide))
        refine ⟨⟨⟨_, B8.out⟩, rfl⟩, ?_⟩
        try simp only [Act.put, List.setIfInBounds_toArray, List.set_cons_zero, List.set_cons_succ]
        rw [wpWays_done4]
        try simp only [List.map_nil]
        refine wpQuiet_nil ?_
        go_wp2_with fail
        go_meet
        exact ⟨_, D, cD, rfl, Lib.hid (ToS.start B8.out HWS.out HR2.out rfl (set_four Z5.out _ _ _ _) GL.out R8.out ⟨by decide, by decide, by decide, by decide, by decide, by decide⟩)⟩
    · go_wp2_with fail
      have B1 := Lib.hid (BD.out.alloc BD.out.size (.cells #[.bool false, .slice none 0 0, .slice none 0 0, .slice none 0 0] 34))
      refine ⟨⟨⟨_, B1.out⟩, rfl⟩, ?_⟩
      try simp only [Act.put, List.setIfInBounds_toArray, List.set_cons_zero, List.set_cons_succ]
      rw [wpWays_one4]
      try simp only [List.map_nil, opAt, List.getElem?_toArray, List.getElem?_cons_zero, List.getElem?_cons_succ, Option.getD_some]
      refine wpQuiet_nil ?_
      go_wp2_with fail
      obtain ⟨V, hV⟩ : ∃ V, V = (wd.alloc (.cells #[.bool false, .slice none 0 0, .slice none 0 0, .slice none 0 0] 34)).alloc (.cells #[] 3) := ⟨_, rfl⟩
      obtain ⟨g3, hg3⟩ : ∃ g3, g3 = wd.heap.size := ⟨_, rfl⟩
      obtain ⟨gk, hgk⟩ : ∃ gk, gk = wd.heap.size + 1 := ⟨_, rfl⟩
      have BV : Hid (Below W.heap.size W V) := Lib.hid (by rw [hV]; exact (BD.out.alloc BD.out.size _).alloc (by have := BD.out.size; simp; omega) _)
      have ZV : Hid (V.heap[g3]? = some (.cells #[.bool false, .slice none 0 0, .slice none 0 0, .slice none 0 0] 34 (0, 0))) := Lib.hid (by rw [hV, hg3]; exact heap_alloc2_old _ _ _)
      have OV : Hid (OwnV V W.heap.size (.slice (some ⟨gk, 0, none⟩) 0 0) 3 []) := Lib.hid (by rw [hV, hgk]; simpa using OwnV.new (wd.alloc (.cells #[.bool false, .slice none 0 0, .slice none 0 0, .slice none 0 0] 34)) 3 [] W.heap.size (by have := BD.out.size; simp; omega) (by unfold maxLen; simp))
      have GL : Hid (W.heap.size ≤ g3) := Lib.hid (by rw [hg3]; exact BD.out.size)
      rw [← hV, ← hgk, ← hg3]
      clear hV hgk hg3 B1
      refine ⟨⟨⟨_, BV.out⟩, rfl⟩, ?_⟩
      try simp only [Act.put, List.setIfInBounds_toArray, List.set_cons_zero, List.set_cons_succ]
      rw [wpWays_one4]
      try simp only [List.map_nil, opAt, List.getElem?_toArray, List.getElem?_cons_zero, List.getElem?_cons_succ, Option.getD_some]
      refine wpQuiet_nil ?_
      go_wp2_with (at_builtin; refine wpList_append_vz rfl (.tmp 8) (.tmp 10) 24 rfl Try.underlying24 (.int .i64 0) 8 infoIntN rfl rfl OV.out DA dc nd (ds.map kdC) (ds.map kdC) rfl (by rw [List.length_map, HND.out]) ((H.out.d.below (HB.out.trans (BV.out.mono (by have := HWS.out; omega)))).cells) (kdC_one ds) rfl (by have := HD8.out; simp; omega) (by have := HDM.out; simp; omega) BV.out.size ?_; intro D cD w5 ho5 hg5)
      have hdl : (ds.map kdC).length = nd := by rw [List.length_map, HND.out]
      rw [hdl] at ho5 ⊢
      clear hdl
      have HO5 : Hid (w5.ownsRow W.heap.size 3 1 (.slice D nd cD) nd (ds.map kdC)) := Lib.hid (by have h5 := ho5; unfold OwnV at h5; rw [List.length_map, HND.out] at h5; exact h5)
      have HB5 := Lib.hid (BV.out.grown hg5 BV.out.size (fun k hk => (World.ownsRow.lt OV.out k hk).1))
      have Z5 := Lib.hid ((typed_kept OV.out hg5 (by decide) ZV.out).trans ZV.out)
      clear ho5 hg5
      refine ⟨⟨⟨_, HB5.out⟩, rfl⟩, ?_⟩
      try simp only [Act.put, List.setIfInBounds_toArray, List.set_cons_zero, List.set_cons_succ]
      rw [wpWays_one4]
      try simp only [List.map_cons, List.map_nil, opAt, List.getElem?_toArray, List.getElem?_cons_zero, List.getElem?_cons_succ, Option.getD_some]
      repeat (go_big_quiet_step (fail))
      refine wpQuiet_nil ?_
      obtain ⟨p0, p1, p2, p3, f0, f1, f2, f3⟩ := four_cells Z5.out
      go_wp2_with fail
      have B8 := Lib.hid (below_set4 HB5.out GL.out (.bool lf) (.slice none 0 0) (.slice none 0 0) (.slice D nd cD))
      have R8 := Lib.hid (row_set4 (a := .bool lf) (b := .slice none 0 0) (c := .slice none 0 0) (d := .slice D nd cD) HO5.out Z5.out (by decide))
      refine ⟨⟨⟨_, B8.out⟩, rfl⟩, ?_⟩
      try simp only [Act.put, List.setIfInBounds_toArray, List.set_cons_zero, List.set_cons_succ]
      rw [wpWays_done4]
      try simp only [List.map_nil]
      refine wpQuiet_nil ?_
      go_wp2_with fail
      go_meet
      exact ⟨_, D, cD, rfl, Lib.hid (ToS.start B8.out HWS.out HR2.out rfl (set_four Z5.out _ _ _ _) GL.out R8.out ⟨by decide, by decide, by decide, by decide, by decide, by decide⟩)⟩
  obtain ⟨g3, D, cD, rfl, HS0⟩ := hcut
  clear G0 G3
  go_upto_region 3 with fail
  go_loopw [4] (fun i wr => ∃ (k : Nat) (A : Option Addr) (c : Nat), k ≤ ne ∧ i = .int .i64 k ∧ Hid (ToS w W wr 34 77 46 3 g3 lf (.slice A k c) (.slice none 0 0) (.slice D nd cD) k 0 nd es ks ds)) (fun i _ => ne - (intOf i).toNat)
  case atStart => exact ⟨0, none, 0, by omega, rfl, HS0⟩
  case round =>
    clear HS0
    obtain ⟨k, A, c, hk, rfl, HS⟩ := hrel
    obtain ⟨W0, rfl⟩ : ∃ W0, W0 = wr := ⟨_, rfl⟩
    have hbox := (HS.out.bel.block w.heap.size (by omega)).trans HR1.out
    have k1 := nd_cell hbox 1 _ rfl
    by_cases hlt : k < ne
    · obtain ⟨e, he⟩ : ∃ e, es[k]? = some e := ⟨_, List.getElem?_eq_getElem (by rw [HNE.out]; exact hlt)⟩
      obtain ⟨b, off, rfl, hc⟩ := H.out.e (by intro e'; have h' := HNE.out; dsimp only at e'; rw [e'] at h'; simp at h'; omega)
      obtain ⟨c0, c1, c2, c3, c4, c5, c6, c7⟩ := hc k e he
      have hl0 := World.block_lt_of_cell? _ _ c0
      have hl0' : b < w.heap.size := hl0
      have hws : w.heap.size + 1 ≤ W0.heap.size := by have h1 := HS.out.bel.size; have h2 := HWS.out; omega
      have HWs0 := Lib.hid hws
      have E0 : ∀ y : SubW (w.heap.size + 1) W0, y.at_.cell? ⟨b, off + k * 8, none⟩ = some (.int .i64 e.se) := fun y => ((y.ok_.cell (p := ⟨b, off + k * 8, none⟩) (Nat.lt_succ_of_lt hl0')).trans ((HS.out.bel.cell (p := ⟨b, off + k * 8, none⟩) (Nat.lt_succ_of_lt hl0')).trans ((HB.out.cell (p := ⟨b, off + k * 8, none⟩) hl0).trans c0)))
      have E1 : ∀ y : SubW (w.heap.size + 1) W0, y.at_.cell? ⟨b, off + k * 8 + 1, none⟩ = some (.int .i64 e.st) := fun y => ((y.ok_.cell (p := ⟨b, off + k * 8 + 1, none⟩) (Nat.lt_succ_of_lt hl0')).trans ((HS.out.bel.cell (p := ⟨b, off + k * 8 + 1, none⟩) (Nat.lt_succ_of_lt hl0')).trans ((HB.out.cell (p := ⟨b, off + k * 8 + 1, none⟩) hl0).trans c1)))
      have E2 : ∀ y : SubW (w.heap.size + 1) W0, y.at_.cell? ⟨b, off + k * 8 + 2, none⟩ = some (.int .i64 e.en) := fun y => ((y.ok_.cell (p := ⟨b, off + k * 8 + 2, none⟩) (Nat.lt_succ_of_lt hl0')).trans ((HS.out.bel.cell (p := ⟨b, off + k * 8 + 2, none⟩) (Nat.lt_succ_of_lt hl0')).trans ((HB.out.cell (p := ⟨b, off + k * 8 + 2, none⟩) hl0).trans c2)))
      have E3 : ∀ y : SubW (w.heap.size + 1) W0, y.at_.cell? ⟨b, off + k * 8 + 3, none⟩ = some (.int .i64 e.ad) := fun y => ((y.ok_.cell (p := ⟨b, off + k * 8 + 3, none⟩) (Nat.lt_succ_of_lt hl0')).trans ((HS.out.bel.cell (p := ⟨b, off + k * 8 + 3, none⟩) (Nat.lt_succ_of_lt hl0')).trans ((HB.out.cell (p := ⟨b, off + k * 8 + 3, none⟩) hl0).trans c3)))
      have E4 : ∀ y : SubW (w.heap.size + 1) W0, y.at_.cell? ⟨b, off + k * 8 + 4, none⟩ = some (.int .i64 e.le) := fun y => ((y.ok_.cell (p := ⟨b, off + k * 8 + 4, none⟩) (Nat.lt_succ_of_lt hl0')).trans ((HS.out.bel.cell (p := ⟨b, off + k * 8 + 4, none⟩) (Nat.lt_succ_of_lt hl0')).trans ((HB.out.cell (p := ⟨b, off + k * 8 + 4, none⟩) hl0).trans c4)))
      have E5 : ∀ y : SubW (w.heap.size + 1) W0, y.at_.cell? ⟨b, off + k * 8 + 5, none⟩ = some (.int .i64 e.cn) := fun y => ((y.ok_.cell (p := ⟨b, off + k * 8 + 5, none⟩) (Nat.lt_succ_of_lt hl0')).trans ((HS.out.bel.cell (p := ⟨b, off + k * 8 + 5, none⟩) (Nat.lt_succ_of_lt hl0')).trans ((HB.out.cell (p := ⟨b, off + k * 8 + 5, none⟩) hl0).trans c5)))
      have E6 : ∀ y : SubW (w.heap.size + 1) W0, y.at_.cell? ⟨b, off + k * 8 + 6, none⟩ = some (.int .i64 e.co) := fun y => ((y.ok_.cell (p := ⟨b, off + k * 8 + 6, none⟩) (Nat.lt_succ_of_lt hl0')).trans ((HS.out.bel.cell (p := ⟨b, off + k * 8 + 6, none⟩) (Nat.lt_succ_of_lt hl0')).trans ((HB.out.cell (p := ⟨b, off + k * 8 + 6, none⟩) hl0).trans c6)))
      have E7 : ∀ y : SubW (w.heap.size + 1) W0, y.at_.cell? ⟨b, off + k * 8 + 7, none⟩ = some (.int .u32 e.cr) := fun y => ((y.ok_.cell (p := ⟨b, off + k * 8 + 7, none⟩) (Nat.lt_succ_of_lt hl0')).trans ((HS.out.bel.cell (p := ⟨b, off + k * 8 + 7, none⟩) (Nat.lt_succ_of_lt hl0')).trans ((HB.out.cell (p := ⟨b, off + k * 8 + 7, none⟩) hl0).trans c7)))
      have N1 : ∀ y : SubW (w.heap.size + 1) W0, y.at_.cell? ⟨w.heap.size, 1, none⟩ = some (.slice (some ⟨b, off, none⟩) ne ec) := fun y => nd_cell ((y.ok_.block _ (by omega)).trans hbox) 1 _ rfl
      have HE := Lib.hid he
      clear he hc c0 c1 c2 c3 c4 c5 c6 c7 hl0 hl0' hbox hws
      go_upto_region 5 with fail
      clear k1
      have hfill : Hid (Instr.fill (fun i => some (i * ie.size, ie.size)) ((Array.range (1 * ie.size)).map ((Value.agg #[.int .i64 0, .int .i64 0, .int .i64 0, .int .i64 0, .int .i64 0, .int .i64 0, .int .i64 0, .int .u32 0]).cells[· % (Value.agg #[.int .i64 0, .int .i64 0, .int .i64 0, .int .i64 0, .int .i64 0, .int .i64 0, .int .i64 0, .int .u32 0]).cells.size]!)) [(0, .agg #[.int .i64 e.se, .int .i64 e.st, .int .i64 e.en, .int .i64 e.ad, .int .i64 e.le, .int .i64 e.cn, .int .i64 e.co, .int .u32 e.cr])] = some #[.int .i64 e.se, .int .i64 e.st, .int .i64 e.en, .int .i64 e.ad, .int .i64 e.le, .int .i64 e.cn, .int .i64 e.co, .int .u32 e.cr]) := Lib.hid (by rw [hies]; exact fill_eight _ _ rfl (by simp))
      refine region_ways4 (w.heap.size + 1) HWs0.out (.two [0, 2, 3, 4, 5, 6] 1 (.one [] 7 (.one [] 8 (.one [] 9 (.one [10] 11 (.done []))))) 7 (.two [] 1 (.one [] 8 (.one [] 9 (.one [10] 11 (.done [])))) 8 (.one [] 1 (.one [] 9 (.one [10] 11 (.done [])))))) (by kernel_rfl) (by kernel_rfl) ?_
      rintro wd hbd
      have BD : Hid (Below (w.heap.size + 1) W0 wd) := Lib.hid (hbd.mono HWs0.out)
      have SD := Lib.hid (HS.out.below hbd)
      have z0 := nd_cell SD.out.out 1 _ rfl
      clear hbd
      rw [wpWays_two4]
      try simp only [List.map_cons, List.map_nil, opAt, List.getElem?_toArray, List.getElem?_cons_zero, List.getElem?_cons_succ, Option.getD_some]
      repeat (go_big_quiet_step (fail))
      clear E0 E1 E2 E3 E4 E5 E6 E7 N1
      refine wpQuiet_nil ⟨?_, ?_⟩
      · go_wp2_with fail
        refine ⟨⟨⟨_, BD.out⟩, rfl⟩, ?_⟩
        try simp only [Act.put, List.setIfInBounds_toArray, List.set_cons_zero, List.set_cons_succ]
        rw [wpWays_one4]
        try simp only [List.map_nil, opAt, List.getElem?_toArray, List.getElem?_cons_zero, List.getElem?_cons_succ, Option.getD_some]
        refine wpQuiet_nil ?_
        go_wp2_with (go_at_call 36; refine (entry_any e _).mono ?_; rintro e' x1 ⟨rfl, hb1⟩; have B1 := Lib.hid (BD.out.trans (hb1.mono (Nat.le_trans HWs0.out BD.out.size))); have S1 := Lib.hid (SD.out.below hb1); clear hb1)
        refine ⟨⟨⟨_, B1.out⟩, rfl⟩, ?_⟩
        try simp only [Act.put, List.setIfInBounds_toArray, List.set_cons_zero, List.set_cons_succ]
        rw [wpWays_one4]
        try simp only [List.map_nil, opAt, List.getElem?_toArray, List.getElem?_cons_zero, List.getElem?_cons_succ, Option.getD_some]
        refine wpQuiet_nil ?_
        go_wp2_with (refine wpList_buildSlice rfl 31 77 1 _ rfl #[.int .i64 e.se, .int .i64 e.st, .int .i64 e.en, .int .i64 e.ad, .int .i64 e.le, .int .i64 e.cn, .int .i64 e.co, .int .u32 e.cr] ie _ Try.underlying31 hie hiez (by rw [hies]; decide) (by rw [hies]; decide) (by rw [Array.toList_map]; exact hfill.out) ?_)
        have B2 := Lib.hid (B1.out.alloc (Nat.le_trans HWs0.out B1.out.size) (.cells #[.int .i64 e.se, .int .i64 e.st, .int .i64 e.en, .int .i64 e.ad, .int .i64 e.le, .int .i64 e.cn, .int .i64 e.co, .int .u32 e.cr] 77))
        have S2 := Lib.hid (S1.out.below ((Below.refl _ _).alloc (Nat.le_refl _) (.cells #[.int .i64 e.se, .int .i64 e.st, .int .i64 e.en, .int .i64 e.ad, .int .i64 e.le, .int .i64 e.cn, .int .i64 e.co, .int .u32 e.cr] 77)))
        have hnews2 : Hid (∀ (j : Nat) (u : Value), (enC e)[j]? = some u → (x1.alloc (.cells #[.int .i64 e.se, .int .i64 e.st, .int .i64 e.en, .int .i64 e.ad, .int .i64 e.le, .int .i64 e.cn, .int .i64 e.co, .int .u32 e.cr] 77)).cell? ((⟨x1.heap.size, 0, none⟩ : Addr).add j) = some u) := Lib.hid (fun j u hj => by rw [Addr.add_mid, World.cell?_alloc_new]; simpa [enC] using hj)
        refine ⟨⟨⟨_, B2.out⟩, rfl⟩, ?_⟩
        try simp only [Act.put, List.setIfInBounds_toArray, List.set_cons_zero, List.set_cons_succ]
        rw [wpWays_one4]
        try simp only [List.map_nil, opAt, List.getElem?_toArray, List.getElem?_cons_zero, List.getElem?_cons_succ, Option.getD_some]
        refine wpQuiet_nil ?_
        go_wp2_with (at_builtin; refine wpList_append_own_at _ rfl (.tmp 21) (.tmp 28) 31 rfl (w.heap.size + 1) 77 ie _ 8 64 Try.underlying31 hie hiez hies hieb rfl (by omega) _ k ((es.take k).flatMap enC) rfl S2.out.rowE ⟨x1.heap.size, 0, none⟩ 1 1 (enC e) rfl rfl hnews2.out (enC_one e) (by have := HEM.out; omega) (by have := HE8.out; omega) (Nat.le_trans HWs0.out B2.out.size) ?_; intro v3 x3 ho3 hg3 _ _)
        obtain ⟨A3, c3, rfl⟩ := row_form ho3
        rw [← flat_takeV HE.out] at ho3
        obtain ⟨-, -, o3⟩ := S2.out.grown S2.out.rowE hg3 (Ne.symm S2.out.ty.1)
        have zc3 := nd_cell o3 1 _ rfl
        have zf3 : x3.frozen? ⟨g3, 1, none⟩ = false := by simp [World.frozen?, o3]
        have SS3 := Lib.hid (S2.out.setE hg3 ho3)
        have B3 := Lib.hid (B2.out.grown hg3 (Nat.le_trans HWs0.out B2.out.size) (fun k hk => (S2.out.rowE.lt k hk).1))
        clear ho3 hg3 o3
        refine ⟨⟨⟨_, B3.out⟩, rfl⟩, ?_⟩
        try simp only [Act.put, List.setIfInBounds_toArray, List.set_cons_zero, List.set_cons_succ]
        rw [wpWays_one4]
        try simp only [List.map_cons, List.map_nil, opAt, List.getElem?_toArray, List.getElem?_cons_zero, List.getElem?_cons_succ, Option.getD_some]
        repeat (go_big_quiet_step (fail))
        refine wpQuiet_nil ?_
        go_wp2_with fail
        have BX3 : Hid (Below (w.heap.size + 1) W0 (x3.setCell ⟨g3, 1, none⟩ (.slice A3 (k + 1) c3))) := Lib.hid ⟨B3.out.os, B3.out.tape, B3.out.output, by have := B3.out.size; simpa using this, fun j hj => (Below.heap_setCell _ ⟨g3, 1, none⟩ _ j (by show j ≠ g3; have := SD.out.gl; omega)).trans (B3.out.block j hj)⟩
        refine ⟨⟨⟨_, BX3.out⟩, rfl⟩, ?_⟩
        try simp only [Act.put, List.setIfInBounds_toArray, List.set_cons_zero, List.set_cons_succ]
        rw [wpWays_done4]
        try simp only [List.map_nil]
        refine wpQuiet_nil ?_
        clear z0
        go_wp2_with fail
        go_roundw
        case rel => exact ⟨k + 1, A3, c3, by omega, by go_num, SS3⟩
        case measure => first | (simp [intOf]; done) | (simp [intOf]; omega)
      · skip
        go_wp2_with (go_at_call 36; refine (entry_any e _).mono ?_; rintro e' x4 ⟨rfl, hb4⟩; have B4 := Lib.hid (BD.out.trans (hb4.mono (Nat.le_trans HWs0.out BD.out.size))); have S4 := Lib.hid (SD.out.below hb4); clear hb4)
        have z4 := nd_cell S4.out.out 1 _ rfl
        refine ⟨⟨⟨_, B4.out⟩, rfl⟩, ?_⟩
        try simp only [Act.put, List.setIfInBounds_toArray, List.set_cons_zero, List.set_cons_succ]
        rw [wpWays_two4]
        try simp only [List.map_nil, opAt, List.getElem?_toArray, List.getElem?_cons_zero, List.getElem?_cons_succ, Option.getD_some]
        refine wpQuiet_nil ⟨?_, ?_⟩
        · go_wp2_with fail
          refine ⟨⟨⟨_, B4.out⟩, rfl⟩, ?_⟩
          try simp only [Act.put, List.setIfInBounds_toArray, List.set_cons_zero, List.set_cons_succ]
          rw [wpWays_one4]
          try simp only [List.map_nil, opAt, List.getElem?_toArray, List.getElem?_cons_zero, List.getElem?_cons_succ, Option.getD_some]
          refine wpQuiet_nil ?_
          go_wp2_with (refine wpList_buildSlice rfl 31 77 1 _ rfl #[.int .i64 e.se, .int .i64 e.st, .int .i64 e.en, .int .i64 e.ad, .int .i64 e.le, .int .i64 e.cn, .int .i64 e.co, .int .u32 e.cr] ie _ Try.underlying31 hie hiez (by rw [hies]; decide) (by rw [hies]; decide) (by rw [Array.toList_map]; exact hfill.out) ?_)
          have B5 := Lib.hid (B4.out.alloc (Nat.le_trans HWs0.out B4.out.size) (.cells #[.int .i64 e.se, .int .i64 e.st, .int .i64 e.en, .int .i64 e.ad, .int .i64 e.le, .int .i64 e.cn, .int .i64 e.co, .int .u32 e.cr] 77))
          have S5 := Lib.hid (S4.out.below ((Below.refl _ _).alloc (Nat.le_refl _) (.cells #[.int .i64 e.se, .int .i64 e.st, .int .i64 e.en, .int .i64 e.ad, .int .i64 e.le, .int .i64 e.cn, .int .i64 e.co, .int .u32 e.cr] 77)))
          have hnews5 : Hid (∀ (j : Nat) (u : Value), (enC e)[j]? = some u → (x4.alloc (.cells #[.int .i64 e.se, .int .i64 e.st, .int .i64 e.en, .int .i64 e.ad, .int .i64 e.le, .int .i64 e.cn, .int .i64 e.co, .int .u32 e.cr] 77)).cell? ((⟨x4.heap.size, 0, none⟩ : Addr).add j) = some u) := Lib.hid (fun j u hj => by rw [Addr.add_mid, World.cell?_alloc_new]; simpa [enC] using hj)
          refine ⟨⟨⟨_, B5.out⟩, rfl⟩, ?_⟩
          try simp only [Act.put, List.setIfInBounds_toArray, List.set_cons_zero, List.set_cons_succ]
          rw [wpWays_one4]
          try simp only [List.map_nil, opAt, List.getElem?_toArray, List.getElem?_cons_zero, List.getElem?_cons_succ, Option.getD_some]
          refine wpQuiet_nil ?_
          go_wp2_with (at_builtin; refine wpList_append_own_at _ rfl (.tmp 21) (.tmp 28) 31 rfl (w.heap.size + 1) 77 ie _ 8 64 Try.underlying31 hie hiez hies hieb rfl (by omega) _ k ((es.take k).flatMap enC) rfl S5.out.rowE ⟨x4.heap.size, 0, none⟩ 1 1 (enC e) rfl rfl hnews5.out (enC_one e) (by have := HEM.out; omega) (by have := HE8.out; omega) (Nat.le_trans HWs0.out B5.out.size) ?_; intro v6 x6 ho6 hg6 _ _)
          obtain ⟨A6, c6, rfl⟩ := row_form ho6
          rw [← flat_takeV HE.out] at ho6
          obtain ⟨-, -, o6⟩ := S5.out.grown S5.out.rowE hg6 (Ne.symm S5.out.ty.1)
          have zc6 := nd_cell o6 1 _ rfl
          have zf6 : x6.frozen? ⟨g3, 1, none⟩ = false := by simp [World.frozen?, o6]
          have SS6 := Lib.hid (S5.out.setE hg6 ho6)
          have B6 := Lib.hid (B5.out.grown hg6 (Nat.le_trans HWs0.out B5.out.size) (fun k hk => (S5.out.rowE.lt k hk).1))
          clear ho6 hg6 o6
          refine ⟨⟨⟨_, B6.out⟩, rfl⟩, ?_⟩
          try simp only [Act.put, List.setIfInBounds_toArray, List.set_cons_zero, List.set_cons_succ]
          rw [wpWays_one4]
          try simp only [List.map_cons, List.map_nil, opAt, List.getElem?_toArray, List.getElem?_cons_zero, List.getElem?_cons_succ, Option.getD_some]
          repeat (go_big_quiet_step (fail))
          refine wpQuiet_nil ?_
          go_wp2_with fail
          have BX6 : Hid (Below (w.heap.size + 1) W0 (x6.setCell ⟨g3, 1, none⟩ (.slice A6 (k + 1) c6))) := Lib.hid ⟨B6.out.os, B6.out.tape, B6.out.output, by have := B6.out.size; simpa using this, fun j hj => (Below.heap_setCell _ ⟨g3, 1, none⟩ _ j (by show j ≠ g3; have := SD.out.gl; omega)).trans (B6.out.block j hj)⟩
          refine ⟨⟨⟨_, BX6.out⟩, rfl⟩, ?_⟩
          try simp only [Act.put, List.setIfInBounds_toArray, List.set_cons_zero, List.set_cons_succ]
          rw [wpWays_done4]
          try simp only [List.map_nil]
          refine wpQuiet_nil ?_
          clear z0
          go_wp2_with fail
          go_roundw
          case rel => exact ⟨k + 1, A6, c6, by omega, by go_num, SS6⟩
          case measure => first | (simp [intOf]; done) | (simp [intOf]; omega)
        · skip
          go_wp2_with (refine wpList_buildSlice rfl 31 77 1 _ rfl #[.int .i64 e.se, .int .i64 e.st, .int .i64 e.en, .int .i64 e.ad, .int .i64 e.le, .int .i64 e.cn, .int .i64 e.co, .int .u32 e.cr] ie _ Try.underlying31 hie hiez (by rw [hies]; decide) (by rw [hies]; decide) (by rw [Array.toList_map]; exact hfill.out) ?_)
          have B7 := Lib.hid (B4.out.alloc (Nat.le_trans HWs0.out B4.out.size) (.cells #[.int .i64 e.se, .int .i64 e.st, .int .i64 e.en, .int .i64 e.ad, .int .i64 e.le, .int .i64 e.cn, .int .i64 e.co, .int .u32 e.cr] 77))
          have S7 := Lib.hid (S4.out.below ((Below.refl _ _).alloc (Nat.le_refl _) (.cells #[.int .i64 e.se, .int .i64 e.st, .int .i64 e.en, .int .i64 e.ad, .int .i64 e.le, .int .i64 e.cn, .int .i64 e.co, .int .u32 e.cr] 77)))
          have hnews7 : Hid (∀ (j : Nat) (u : Value), (enC e)[j]? = some u → (x4.alloc (.cells #[.int .i64 e.se, .int .i64 e.st, .int .i64 e.en, .int .i64 e.ad, .int .i64 e.le, .int .i64 e.cn, .int .i64 e.co, .int .u32 e.cr] 77)).cell? ((⟨x4.heap.size, 0, none⟩ : Addr).add j) = some u) := Lib.hid (fun j u hj => by rw [Addr.add_mid, World.cell?_alloc_new]; simpa [enC] using hj)
          have z7 := nd_cell S7.out.out 1 _ rfl
          refine ⟨⟨⟨_, B7.out⟩, rfl⟩, ?_⟩
          try simp only [Act.put, List.setIfInBounds_toArray, List.set_cons_zero, List.set_cons_succ]
          rw [wpWays_one4]
          try simp only [List.map_nil, opAt, List.getElem?_toArray, List.getElem?_cons_zero, List.getElem?_cons_succ, Option.getD_some]
          refine wpQuiet_nil ?_
          go_wp2_with fail
          refine ⟨⟨⟨_, B7.out⟩, rfl⟩, ?_⟩
          try simp only [Act.put, List.setIfInBounds_toArray, List.set_cons_zero, List.set_cons_succ]
          rw [wpWays_one4]
          try simp only [List.map_nil, opAt, List.getElem?_toArray, List.getElem?_cons_zero, List.getElem?_cons_succ, Option.getD_some]
          refine wpQuiet_nil ?_
          go_wp2_with (at_builtin; refine wpList_append_own_at _ rfl (.tmp 21) (.tmp 28) 31 rfl (w.heap.size + 1) 77 ie _ 8 64 Try.underlying31 hie hiez hies hieb rfl (by omega) _ k ((es.take k).flatMap enC) rfl S7.out.rowE ⟨x4.heap.size, 0, none⟩ 1 1 (enC e) rfl rfl hnews7.out (enC_one e) (by have := HEM.out; omega) (by have := HE8.out; omega) (Nat.le_trans HWs0.out B7.out.size) ?_; intro v8 x8 ho8 hg8 _ _)
          obtain ⟨A8, c8, rfl⟩ := row_form ho8
          rw [← flat_takeV HE.out] at ho8
          obtain ⟨-, -, o8⟩ := S7.out.grown S7.out.rowE hg8 (Ne.symm S7.out.ty.1)
          have zc8 := nd_cell o8 1 _ rfl
          have zf8 : x8.frozen? ⟨g3, 1, none⟩ = false := by simp [World.frozen?, o8]
          have SS8 := Lib.hid (S7.out.setE hg8 ho8)
          have B8 := Lib.hid (B7.out.grown hg8 (Nat.le_trans HWs0.out B7.out.size) (fun k hk => (S7.out.rowE.lt k hk).1))
          clear ho8 hg8 o8
          refine ⟨⟨⟨_, B8.out⟩, rfl⟩, ?_⟩
          try simp only [Act.put, List.setIfInBounds_toArray, List.set_cons_zero, List.set_cons_succ]
          rw [wpWays_one4]
          try simp only [List.map_cons, List.map_nil, opAt, List.getElem?_toArray, List.getElem?_cons_zero, List.getElem?_cons_succ, Option.getD_some]
          repeat (go_big_quiet_step (fail))
          refine wpQuiet_nil ?_
          go_wp2_with fail
          have BX8 : Hid (Below (w.heap.size + 1) W0 (x8.setCell ⟨g3, 1, none⟩ (.slice A8 (k + 1) c8))) := Lib.hid ⟨B8.out.os, B8.out.tape, B8.out.output, by have := B8.out.size; simpa using this, fun j hj => (Below.heap_setCell _ ⟨g3, 1, none⟩ _ j (by show j ≠ g3; have := SD.out.gl; omega)).trans (B8.out.block j hj)⟩
          refine ⟨⟨⟨_, BX8.out⟩, rfl⟩, ?_⟩
          try simp only [Act.put, List.setIfInBounds_toArray, List.set_cons_zero, List.set_cons_succ]
          rw [wpWays_done4]
          try simp only [List.map_nil]
          refine wpQuiet_nil ?_
          clear z0
          go_wp2_with fail
          go_roundw
          case rel => exact ⟨k + 1, A8, c8, by omega, by go_num, SS8⟩
          case measure => first | (simp [intOf]; done) | (simp [intOf]; omega)
    · obtain rfl : k = ne := by omega
      have hdk : decide ((k : Int) < (k : Int)) = false := by simp
      go_upto_region 7 with fail
      clear k1 hdk hbox
      have htkE : es.take k = es := List.take_of_length_le (by have := HNE.out; omega)
      have HTE := Lib.hid htkE
      clear htkE
      go_loopw [5] (fun i wr => ∃ (j : Nat) (A2 : Option Addr) (c2 : Nat), j ≤ nk ∧ i = .int .i64 j ∧ Hid (ToS w W wr 34 77 46 3 g3 lf (.slice A k c) (.slice A2 j c2) (.slice D nd cD) k j nd es ks ds)) (fun i _ => nk - (intOf i).toNat)
      case atStart => exact ⟨0, none, 0, by omega, rfl, HS⟩
      case round =>
        clear HS
        obtain ⟨j, A2, c2, hj, rfl, HS⟩ := hrel
        obtain ⟨W1, rfl⟩ : ∃ W0, W0 = wr := ⟨_, rfl⟩
        have hbox := (HS.out.bel.block w.heap.size (by omega)).trans HR1.out
        have k1 := nd_cell hbox 2 _ rfl
        by_cases hlt2 : j < nk
        · obtain ⟨e, he⟩ : ∃ e, ks[j]? = some e := ⟨_, List.getElem?_eq_getElem (by rw [HNK.out]; exact hlt2)⟩
          obtain ⟨b, off, rfl, hc⟩ := H.out.k (by intro e'; have h' := HNK.out; dsimp only at e'; rw [e'] at h'; simp at h'; omega)
          obtain ⟨c0, c1⟩ := hc j e he
          have hl0 := World.block_lt_of_cell? _ _ c0
          have hl0' : b < w.heap.size := hl0
          have hws : w.heap.size + 1 ≤ W1.heap.size := by have h1 := HS.out.bel.size; have h2 := HWS.out; omega
          have HWs0 := Lib.hid hws
          have E0 : ∀ y : SubW (w.heap.size + 1) W1, y.at_.cell? ⟨b, off + j * 2, none⟩ = some (.int .i64 e.se) := fun y => ((y.ok_.cell (p := ⟨b, off + j * 2, none⟩) (Nat.lt_succ_of_lt hl0')).trans ((HS.out.bel.cell (p := ⟨b, off + j * 2, none⟩) (Nat.lt_succ_of_lt hl0')).trans ((HB.out.cell (p := ⟨b, off + j * 2, none⟩) hl0).trans c0)))
          have E1 : ∀ y : SubW (w.heap.size + 1) W1, y.at_.cell? ⟨b, off + j * 2 + 1, none⟩ = some (.int .i64 e.st) := fun y => ((y.ok_.cell (p := ⟨b, off + j * 2 + 1, none⟩) (Nat.lt_succ_of_lt hl0')).trans ((HS.out.bel.cell (p := ⟨b, off + j * 2 + 1, none⟩) (Nat.lt_succ_of_lt hl0')).trans ((HB.out.cell (p := ⟨b, off + j * 2 + 1, none⟩) hl0).trans c1)))
          have N1 : ∀ y : SubW (w.heap.size + 1) W1, y.at_.cell? ⟨w.heap.size, 2, none⟩ = some (.slice (some ⟨b, off, none⟩) nk kc) := fun y => nd_cell ((y.ok_.block _ (by omega)).trans hbox) 2 _ rfl
          have HE := Lib.hid he
          clear he hc c0 c1 hl0 hl0' hbox hws
          go_upto_region 9 with fail
          clear k1
          have hfill : Hid (Instr.fill (fun i => some (i * ik.size, ik.size)) ((Array.range (1 * ik.size)).map ((Value.agg #[.int .i64 0, .int .i64 0]).cells[· % (Value.agg #[.int .i64 0, .int .i64 0]).cells.size]!)) [(0, .agg #[.int .i64 e.se, .int .i64 e.st])] = some #[.int .i64 e.se, .int .i64 e.st]) := Lib.hid (by rw [hiks]; exact fill_twoN _ _ rfl (by simp))
          refine region_ways4 (w.heap.size + 1) HWs0.out (.two [0, 2, 3, 4, 5, 6, 7, 8, 9, 10, 11, 12, 13, 14] 1 (.one [] 15 (.one [] 16 (.one [17] 18 (.done [])))) 15 (.one [] 1 (.one [] 16 (.one [17] 18 (.done []))))) (by kernel_rfl) (by kernel_rfl) ?_
          rintro wd hbd
          have BD : Hid (Below (w.heap.size + 1) W1 wd) := Lib.hid (hbd.mono HWs0.out)
          have SD := Lib.hid (HS.out.below hbd)
          have z0 := nd_cell SD.out.out 2 _ rfl
          clear hbd
          rw [wpWays_two4]
          try simp only [List.map_cons, List.map_nil, opAt, List.getElem?_toArray, List.getElem?_cons_zero, List.getElem?_cons_succ, Option.getD_some]
          repeat (go_big_quiet_step (fail))
          clear E0 E1 N1
          refine wpQuiet_nil ⟨?_, ?_⟩
          · go_wp2_with fail
            refine ⟨⟨⟨_, BD.out⟩, rfl⟩, ?_⟩
            try simp only [Act.put, List.setIfInBounds_toArray, List.set_cons_zero, List.set_cons_succ]
            rw [wpWays_one4]
            try simp only [List.map_nil, opAt, List.getElem?_toArray, List.getElem?_cons_zero, List.getElem?_cons_succ, Option.getD_some]
            refine wpQuiet_nil ?_
            go_wp2_with (refine wpList_buildSlice rfl 32 46 1 _ rfl #[.int .i64 e.se, .int .i64 e.st] ik _ Try.underlying32 hik hikz (by rw [hiks]; decide) (by rw [hiks]; decide) (by rw [Array.toList_map]; exact hfill.out) ?_)
            have B9 := Lib.hid (BD.out.alloc (Nat.le_trans HWs0.out BD.out.size) (.cells #[.int .i64 e.se, .int .i64 e.st] 46))
            have S9 := Lib.hid (SD.out.below ((Below.refl _ _).alloc (Nat.le_refl _) (.cells #[.int .i64 e.se, .int .i64 e.st] 46)))
            have hnews9 : Hid (∀ (j : Nat) (u : Value), (kyC e)[j]? = some u → (wd.alloc (.cells #[.int .i64 e.se, .int .i64 e.st] 46)).cell? ((⟨wd.heap.size, 0, none⟩ : Addr).add j) = some u) := Lib.hid (fun j u hj => by rw [Addr.add_mid, World.cell?_alloc_new]; simpa [kyC] using hj)
            refine ⟨⟨⟨_, B9.out⟩, rfl⟩, ?_⟩
            try simp only [Act.put, List.setIfInBounds_toArray, List.set_cons_zero, List.set_cons_succ]
            rw [wpWays_one4]
            try simp only [List.map_nil, opAt, List.getElem?_toArray, List.getElem?_cons_zero, List.getElem?_cons_succ, Option.getD_some]
            refine wpQuiet_nil ?_
            go_wp2_with (at_builtin; refine wpList_append_own_at _ rfl (.tmp 39) (.tmp 53) 32 rfl (w.heap.size + 1) 46 ik _ 2 16 Try.underlying32 hik hikz hiks hikb rfl (by omega) _ j ((ks.take j).flatMap kyC) rfl S9.out.rowK ⟨wd.heap.size, 0, none⟩ 1 1 (kyC e) rfl rfl hnews9.out (kyC_one e) (by have := HKM.out; omega) (by have := HK8.out; omega) (Nat.le_trans HWs0.out B9.out.size) ?_; intro v10 x10 ho10 hg10 _ _)
            obtain ⟨A10, c10, rfl⟩ := row_form ho10
            rw [← flat_takeV HE.out] at ho10
            obtain ⟨-, -, o10⟩ := S9.out.grown S9.out.rowK hg10 (Ne.symm S9.out.ty.2.1)
            have zc10 := nd_cell o10 2 _ rfl
            have zf10 : x10.frozen? ⟨g3, 2, none⟩ = false := by simp [World.frozen?, o10]
            have SS10 := Lib.hid (S9.out.setK hg10 ho10)
            have B10 := Lib.hid (B9.out.grown hg10 (Nat.le_trans HWs0.out B9.out.size) (fun k hk => (S9.out.rowK.lt k hk).1))
            clear ho10 hg10 o10
            refine ⟨⟨⟨_, B10.out⟩, rfl⟩, ?_⟩
            try simp only [Act.put, List.setIfInBounds_toArray, List.set_cons_zero, List.set_cons_succ]
            rw [wpWays_one4]
            try simp only [List.map_cons, List.map_nil, opAt, List.getElem?_toArray, List.getElem?_cons_zero, List.getElem?_cons_succ, Option.getD_some]
            repeat (go_big_quiet_step (fail))
            refine wpQuiet_nil ?_
            go_wp2_with fail
            have BX10 : Hid (Below (w.heap.size + 1) W1 (x10.setCell ⟨g3, 2, none⟩ (.slice A10 (j + 1) c10))) := Lib.hid ⟨B10.out.os, B10.out.tape, B10.out.output, by have := B10.out.size; simpa using this, fun j hj => (Below.heap_setCell _ ⟨g3, 2, none⟩ _ j (by show j ≠ g3; have := SD.out.gl; omega)).trans (B10.out.block j hj)⟩
            refine ⟨⟨⟨_, BX10.out⟩, rfl⟩, ?_⟩
            try simp only [Act.put, List.setIfInBounds_toArray, List.set_cons_zero, List.set_cons_succ]
            rw [wpWays_done4]
            try simp only [List.map_nil]
            refine wpQuiet_nil ?_
            clear z0
            go_wp2_with fail
            go_roundw
            case rel => exact ⟨j + 1, A10, c10, by omega, by go_num, SS10⟩
            case measure => first | (simp [intOf]; done) | (simp [intOf]; omega)
          · skip
            go_wp2_with (refine wpList_buildSlice rfl 32 46 1 _ rfl #[.int .i64 e.se, .int .i64 e.st] ik _ Try.underlying32 hik hikz (by rw [hiks]; decide) (by rw [hiks]; decide) (by rw [Array.toList_map]; exact hfill.out) ?_)
            have B11 := Lib.hid (BD.out.alloc (Nat.le_trans HWs0.out BD.out.size) (.cells #[.int .i64 e.se, .int .i64 e.st] 46))
            have S11 := Lib.hid (SD.out.below ((Below.refl _ _).alloc (Nat.le_refl _) (.cells #[.int .i64 e.se, .int .i64 e.st] 46)))
            have hnews11 : Hid (∀ (j : Nat) (u : Value), (kyC e)[j]? = some u → (wd.alloc (.cells #[.int .i64 e.se, .int .i64 e.st] 46)).cell? ((⟨wd.heap.size, 0, none⟩ : Addr).add j) = some u) := Lib.hid (fun j u hj => by rw [Addr.add_mid, World.cell?_alloc_new]; simpa [kyC] using hj)
            have z11 := nd_cell S11.out.out 2 _ rfl
            refine ⟨⟨⟨_, B11.out⟩, rfl⟩, ?_⟩
            try simp only [Act.put, List.setIfInBounds_toArray, List.set_cons_zero, List.set_cons_succ]
            rw [wpWays_one4]
            try simp only [List.map_nil, opAt, List.getElem?_toArray, List.getElem?_cons_zero, List.getElem?_cons_succ, Option.getD_some]
            refine wpQuiet_nil ?_
            go_wp2_with fail
            refine ⟨⟨⟨_, B11.out⟩, rfl⟩, ?_⟩
            try simp only [Act.put, List.setIfInBounds_toArray, List.set_cons_zero, List.set_cons_succ]
            rw [wpWays_one4]
            try simp only [List.map_nil, opAt, List.getElem?_toArray, List.getElem?_cons_zero, List.getElem?_cons_succ, Option.getD_some]
            refine wpQuiet_nil ?_
            go_wp2_with (at_builtin; refine wpList_append_own_at _ rfl (.tmp 39) (.tmp 53) 32 rfl (w.heap.size + 1) 46 ik _ 2 16 Try.underlying32 hik hikz hiks hikb rfl (by omega) _ j ((ks.take j).flatMap kyC) rfl S11.out.rowK ⟨wd.heap.size, 0, none⟩ 1 1 (kyC e) rfl rfl hnews11.out (kyC_one e) (by have := HKM.out; omega) (by have := HK8.out; omega) (Nat.le_trans HWs0.out B11.out.size) ?_; intro v12 x12 ho12 hg12 _ _)
            obtain ⟨A12, c12, rfl⟩ := row_form ho12
            rw [← flat_takeV HE.out] at ho12
            obtain ⟨-, -, o12⟩ := S11.out.grown S11.out.rowK hg12 (Ne.symm S11.out.ty.2.1)
            have zc12 := nd_cell o12 2 _ rfl
            have zf12 : x12.frozen? ⟨g3, 2, none⟩ = false := by simp [World.frozen?, o12]
            have SS12 := Lib.hid (S11.out.setK hg12 ho12)
            have B12 := Lib.hid (B11.out.grown hg12 (Nat.le_trans HWs0.out B11.out.size) (fun k hk => (S11.out.rowK.lt k hk).1))
            clear ho12 hg12 o12
            refine ⟨⟨⟨_, B12.out⟩, rfl⟩, ?_⟩
            try simp only [Act.put, List.setIfInBounds_toArray, List.set_cons_zero, List.set_cons_succ]
            rw [wpWays_one4]
            try simp only [List.map_cons, List.map_nil, opAt, List.getElem?_toArray, List.getElem?_cons_zero, List.getElem?_cons_succ, Option.getD_some]
            repeat (go_big_quiet_step (fail))
            refine wpQuiet_nil ?_
            go_wp2_with fail
            have BX12 : Hid (Below (w.heap.size + 1) W1 (x12.setCell ⟨g3, 2, none⟩ (.slice A12 (j + 1) c12))) := Lib.hid ⟨B12.out.os, B12.out.tape, B12.out.output, by have := B12.out.size; simpa using this, fun j hj => (Below.heap_setCell _ ⟨g3, 2, none⟩ _ j (by show j ≠ g3; have := SD.out.gl; omega)).trans (B12.out.block j hj)⟩
            refine ⟨⟨⟨_, BX12.out⟩, rfl⟩, ?_⟩
            try simp only [Act.put, List.setIfInBounds_toArray, List.set_cons_zero, List.set_cons_succ]
            rw [wpWays_done4]
            try simp only [List.map_nil]
            refine wpQuiet_nil ?_
            clear z0
            go_wp2_with fail
            go_roundw
            case rel => exact ⟨j + 1, A12, c12, by omega, by go_num, SS12⟩
            case measure => first | (simp [intOf]; done) | (simp [intOf]; omega)
        · obtain rfl : j = nk := by omega
          have hdk : decide ((j : Int) < (j : Int)) = false := by simp
          have htkK : ks.take j = ks := List.take_of_length_le (by have := HNK.out; omega)
          obtain ⟨Z, hz, hZs⟩ := HS.out.res
          obtain ⟨za, zb, zc, zd, rfl⟩ := array4N hZs
          have HZ := Lib.hid hz
          have HTK := Lib.hid htkK
          go_upto_region 10 with fail
          clear k1 hbox hdk
          obtain ⟨p0, p1, p2, p3, f0, f1, f2, f3⟩ := four_cells hz
          have u0 := nd_cell HS.out.out 0 _ rfl
          have u1 := nd_cell HS.out.out 1 _ rfl
          have u2 := nd_cell HS.out.out 2 _ rfl
          have u3 := nd_cell HS.out.out 3 _ rfl
          clear hz hZs htkK
          go_wp2_with fail
          refine bodyPost_ret (v := .agg #[.bool lf, .slice A k c, .slice A2 j c2, .slice D nd cD]) (results_cell_row (p := 2) (ty := 34) rfl _ _ (w.heap.size + 1) 34 #[.bool lf, .slice A k c, .slice A2 j c2, .slice D nd cD] (0, 0) _ rfl (set_four HZ.out _ _ _ _) Try.underlying34 rfl (by kernel_rfl)) rfl ⟨⟨A, c, A2, c2, D, cD⟩, rfl, ?_, below_set4 (HB.out.trans (HS.out.bel.mono (by omega))) (by omega) _ _ _ _⟩
          have q1 := row_set4 (a := .bool lf) (b := .slice A k c) (c := .slice A2 j c2) (d := .slice D nd cD) HS.out.rowE HZ.out HS.out.ty.1
          have q2 := row_set4 (a := .bool lf) (b := .slice A k c) (c := .slice A2 j c2) (d := .slice D nd cD) HS.out.rowK HZ.out HS.out.ty.2.1
          have q3 := row_set4 (a := .bool lf) (b := .slice A k c) (c := .slice A2 j c2) (d := .slice D nd cD) HS.out.rowD HZ.out HS.out.ty.2.2.1
          rw [HTE.out] at q1
          rw [HTK.out] at q2
          have m1 := row_cap q1
          have m2 := row_cap q2
          have m3 := row_cap q3
          exact { e := EnAt.of_row q1, k := KyAt.of_row q2, d := KdAt.of_row q3, ec := by have := HNE.out; dsimp only; omega, kc := by have := HNK.out; dsimp only; omega, dc := by have := HND.out; dsimp only; omega, em := m1.2, km := m2.2, dm := m3.2 }
end Go.Proofs.Ytgkddhncfaeidaa
