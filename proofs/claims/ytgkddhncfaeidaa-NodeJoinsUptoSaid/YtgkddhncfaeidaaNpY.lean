/- NodePuts: of a node that can be the bytes are told, and the node again. -/
import Derived.Test.YtgkddhncfaeidaaNpW
namespace Go.Proofs.Ytgkddhncfaeidaa
open Go.ChangeShapes Go.WideShapes Go.ChangeAt Go.RowKit CrcM PageM
set_option linter.unusedVariables false

set_option maxRecDepth 100000 in
theorem eq_nkey (k : Nat) (hk : 2 ≤ k) (a b : Int) (w : World) : (Op.equalIn k 46 (.agg #[.int .i64 a, .int .i64 b]) (.agg #[.int .i64 a, .int .i64 b])).run Try.prog w = .ok true w := by
  obtain ⟨d, rfl⟩ : ∃ d, k = d + 1 + 1 := ⟨k - 2, by omega⟩
  have ht : Try.prog.underlying 46 = some (.struct (Try.prog.fieldsOf 46)) := by kernel_rfl
  have hp : Try.prog.stoodInHeld 46 = false := by kernel_rfl
  have hf : (Try.prog.fieldsOf 46).toList = [⟨"Series", 3, 0, false, "", "", 0⟩, ⟨"Start", 2, 1, false, "", "", 8⟩] := by kernel_rfl
  have h := run_equalIn_agg (P := Try.prog) w (d + 1) 46 #[.int .i64 a, .int .i64 b] #[.int .i64 a, .int .i64 b] ht hp
  rw [hf] at h
  rw [h]
  have hki : Try.prog.plainKey 3 = true := by kernel_rfl
  have hk6 : Try.prog.plainKey 2 = true := by kernel_rfl
  have e0 := run_part_plain (P := Try.prog) w hki (xs := #[.int .i64 a, .int .i64 b]) (off := 0) (v := .int .i64 a) rfl
  have e1 := run_part_plain (P := Try.prog) w hk6 (xs := #[.int .i64 a, .int .i64 b]) (off := 1) (v := .int .i64 b) rfl
  have qi := fun z : Int => run_equalIn_int (P := Try.prog) w d 3 .i64 .i64 z z Try.underlying3
  have q6 := fun z : Int => run_equalIn_int (P := Try.prog) w d 2 .i64 .i64 z z Try.underlying2
  simp [Op.eqFields, Sem.run_bind, e0, e1, qi, q6]
theorem eql_nkey (a b : Int) (w : World) : (binOp .eql 46 (.agg #[.int .i64 a, .int .i64 b]) (.agg #[.int .i64 a, .int .i64 b])).run Try.prog w = .ok (.bool true) w := by
  rw [run_eql_struct, eq_nkey 10000 (by decide) a b w]
  rfl
theorem guard_nkey (op : BinOp) (x y : Operand) (C D : Array Value) (w : World) : (eqGuard op 46 x y (.agg C) (.agg D)).run Try.prog w = .ok () w := run_eqGuard_agg w op _ x y C D (by kernel_rfl)

theorem first_key {n : NodeD} (hn : okNode n) : ∃ k : KeyD, if n.leaf = true then ∃ e, n.es[0]? = some e ∧ k = e.key else n.ks[0]? = some k := by
  unfold okNode at hn
  split at hn
  · rename_i hl
    have h1 := hn.2.2.1
    exact ⟨_, by rw [if_pos hl]; exact ⟨n.es[0], List.getElem?_eq_getElem (by omega), rfl⟩⟩
  · rename_i hl
    have h1 := hn.2.2.1.1
    exact ⟨_, by rw [if_neg hl]; exact List.getElem?_eq_getElem (by omega)⟩
set_option maxRecDepth 100000 in
set_option maxHeartbeats 8000000 in
theorem nodePuts_yes (n : NodeD) (l : NdL) (hn : okNode n) (hi : inNode n) (hf : FitsN n) (w : World) (h : NodeAt w n l) :
    Calls Try.prog 3 #[.agg #[.bool n.leaf, .slice l.EA n.es.length l.ec, .slice l.KA n.ks.length l.kc, .slice l.DA n.ds.length l.dc]] w fun e w' => e = .returned (.bool true) ∧ Below w.heap.size w w' := by
  obtain ⟨W, eW⟩ : ∃ W, W = w.alloc (.cells #[.bool n.leaf, .slice l.EA n.es.length l.ec, .slice l.KA n.ks.length l.kc, .slice l.DA n.ds.length l.dc] 26) := ⟨_, rfl⟩
  have hbW : Below w.heap.size w W := by rw [eW]; exact (Below.refl _ _).alloc (Nat.le_refl _) _
  have hg : W.heap[w.heap.size]? = some (.cells #[.bool n.leaf, .slice l.EA n.es.length l.ec, .slice l.KA n.ks.length l.kc, .slice l.DA n.ds.length l.dc] 26 (0, 0)) := by rw [eW]; exact heap_alloc_new _ _
  obtain ⟨XS, hXS⟩ : ∃ XS, nodeB n = XS := ⟨_, rfl⟩
  obtain ⟨L, hL⟩ : ∃ L, L = XS.length := ⟨_, rfl⟩
  have HG := Lib.hid hg
  have HN := Lib.hid (h.below hbW)
  have HBW := Lib.hid hbW
  have HNO := Lib.hid hn
  have HIN := Lib.hid hi
  have HF := Lib.hid hf
  have HXS := Lib.hid hXS
  have HL := Lib.hid hL
  have HL0 : Hid (L = (nodeB n).length) := Lib.hid (by rw [hXS]; exact hL)
  have HEQ : Hid (((n.size : Int) == (n.size : Int)) = true) := Lib.hid (by simp)
  obtain ⟨k, hk⟩ := first_key hn
  have HK := Lib.hid hk
  clear hbW hg hn hi hf hXS hL hk
  have hw0 := h
  clear h
  go_enter Try.func3, Try.ntmps3
  go_upto_region 1 with fail
  rw [← eW]
  clear eW
  go_upto_region 3 with (first
    | (refine wpList_load_row rfl 26 (.tmp 1) rfl w.heap.size rfl 26 _ (0, 0) _ HG.out Try.underlying26 rfl (by kernel_rfl) ?_)
    | (refine wpList_load_row rfl 26 (.tmp 1) rfl w.heap.size rfl 26 _ (0, 0) _ HG2.out Try.underlying26 rfl (by kernel_rfl) ?_)
    | (go_at_call 10; refine (to_any n l _ HN.out HF.out.e HF.out.k HF.out.d).mono ?_; rintro e w1 ⟨l1, rfl, hn1, hb1⟩; have HN1 := Lib.hid hn1; have HB1 := Lib.hid hb1; clear hn1 hb1)
    | (go_at_call 9; refine (put_yes n l1 HNO.out _ HN1.out L HL0.out).mono ?_; rw [HXS.out]; rintro e w2 ⟨A, c, rfl, ho2, hb2⟩; have HB2 := Lib.hid (HB1.out.trans (hb2.mono HB1.out.size)); clear hb2; have HG2 := Lib.hid (row_stays HG.out HB2.out); have HN2 := Lib.hid (HN.out.below HB2.out); have HX2 := Lib.hid ho2.bytes; have HC2 := Lib.hid ho2.caps; clear ho2)
    | (go_at_call 11; refine (refPut_yes n l HNO.out _ HN2.out L HL0.out).mono ?_; rw [HXS.out]; rintro e w3 ⟨A2, c2, rfl, ho3, hb3⟩; have HB3 := Lib.hid hb3; clear hb3; have HX3 := Lib.hid ho3.bytes; clear ho3))
  have HG3 := Lib.hid (row_stays HG2.out HB3.out)
  have HN3 := Lib.hid (HN2.out.below HB3.out)
  have HX1 := Lib.hid (HX2.out.below HB3.out)
  have HW3 : Hid (Below w.heap.size w w3) := Lib.hid (HBW.out.trans ((HB2.out.trans (HB3.out.mono HB2.out.size)).mono HBW.out.size))
  clear HB3 HN2 HG2 HB2 HN1 HB1 HG HN HBW HX2
  have f1 : Hid (∀ y : SubW w3.heap.size w3, y.at_.heap[w.heap.size]? = some (.cells #[.bool n.leaf, .slice l.EA n.es.length l.ec, .slice l.KA n.ks.length l.kc, .slice l.DA n.ds.length l.dc] 26 (0, 0))) := Lib.hid (fun y => row_stays HG3.out y.ok_)
  have t1 : Hid (∀ y : SubW w3.heap.size w3, (convert 27 9 (.slice A L c)).run Try.prog y.at_ = .ok (.string ⟨XS.toArray⟩) y.at_) := Lib.hid (fun y => text_nd (w := y.at_) A L c XS HL.out.symm (HX1.out.below y.ok_))
  have t2 : Hid (∀ y : SubW w3.heap.size w3, (convert 27 9 (.slice A2 L c2)).run Try.prog y.at_ = .ok (.string ⟨XS.toArray⟩) y.at_) := Lib.hid (fun y => text_nd (w := y.at_) A2 L c2 XS HL.out.symm (HX3.out.below y.ok_))
  refine region_overB w3.heap.size (Nat.le_refl _) [([], 0), ([1, 2, 3, 6], 4), ([], 5), ([], 7), ([8, 9, 10, 11, 12, 13, 14, 15, 16, 17, 18, 19, 20, 21, 22, 23, 24, 27], 25), ([], 26), ([], 28)] [29, 30] (by kernel_rfl) (by kernel_rfl) ?_
  rintro wd hbd
  rw [wpBl_cons]
  simp only [List.map_nil, opAt, List.getElem?_toArray, List.getElem?_cons_zero, Option.getD_some]
  refine wpQuiet_nil ?_
  go_wp2_with (go_at_call 12; refine (ndputs_any _).mono ?_; rintro e w5 ⟨rfl, hb5⟩)
  have HB5 := Lib.hid (hbd.trans (hb5.mono hbd.size))
  clear hbd hb5
  refine ⟨⟨⟨_, HB5.out⟩, rfl⟩, ?_⟩
  rw [wpBl_cons]
  simp only [List.map_cons, List.map_nil, opAt, List.getElem?_toArray, List.getElem?_cons_zero, List.getElem?_cons_succ, Option.getD_some]
  repeat (first
    | (go_big_quiet_want; refine quiet_load_row 26 (.tmp 1) rfl w.heap.size rfl 26 _ (0, 0) _ f1.out Try.underlying26 rfl (by kernel_rfl) ?_; simp only [Act.put, List.setIfInBounds_toArray, List.set_cons_zero, List.set_cons_succ]; go_big_quiet_on)
    | go_big_quiet_step (fail))
  refine wpQuiet_nil ?_
  go_wp2_with (go_at_call 10; refine (to_any n l _ (HN3.out.below HB5.out) HF.out.e HF.out.k HF.out.d).mono ?_; rintro e w6 ⟨l6, rfl, hn6, hb6⟩; have HB6 := Lib.hid (HB5.out.trans (hb6.mono HB5.out.size)); have HN6 := Lib.hid hn6; clear hn6; clear hb6)
  refine ⟨⟨⟨_, HB6.out⟩, rfl⟩, ?_⟩
  rw [wpBl_cons]
  simp only [List.map_nil, opAt, List.getElem?_toArray, List.getElem?_cons_zero, List.getElem?_cons_succ, Option.getD_some]
  refine wpQuiet_nil ?_
  go_wp2_with (go_at_call 13; refine (right_any n l6 true (IsB.mkT HNO.out) _ HN6.out).mono ?_; rintro e w7 ⟨rfl, hb7⟩; have HB7 := Lib.hid (HB6.out.trans (hb7.mono HB6.out.size)); clear hb7)
  refine ⟨⟨⟨_, HB7.out⟩, rfl⟩, ?_⟩
  rw [wpBl_cons]
  simp only [List.map_nil, opAt, List.getElem?_toArray, List.getElem?_cons_zero, List.getElem?_cons_succ, Option.getD_some]
  refine wpQuiet_nil ?_
  go_wp2_with (go_at_call 14; refine (refRight_any n l true (IsB.mkT HNO.out) _ (HN3.out.below HB7.out)).mono ?_; rintro e w8 ⟨rfl, hb8⟩; have HB8 := Lib.hid (HB7.out.trans (hb8.mono HB7.out.size)); clear hb8)
  refine ⟨⟨⟨_, HB8.out⟩, rfl⟩, ?_⟩
  rw [wpBl_cons]
  simp only [List.map_cons, List.map_nil, opAt, List.getElem?_toArray, List.getElem?_cons_zero, List.getElem?_cons_succ, Option.getD_some]
  have s1 := t1.out
  have s2 := t2.out
  repeat (first
    | (go_big_quiet_want; refine quiet_load_row 26 (.tmp 1) rfl w.heap.size rfl 26 _ (0, 0) _ f1.out Try.underlying26 rfl (by kernel_rfl) ?_; simp only [Act.put, List.setIfInBounds_toArray, List.set_cons_zero, List.set_cons_succ]; go_big_quiet_on)
    | go_big_quiet_step (fail))
  clear s1 s2
  refine wpQuiet_nil ?_
  go_wp2_with (go_at_call 10; refine (to_any n l _ (HN3.out.below HB8.out) HF.out.e HF.out.k HF.out.d).mono ?_; rintro e w9 ⟨l9, rfl, hn9, hb9⟩; have HB9 := Lib.hid (HB8.out.trans (hb9.mono HB8.out.size)); have HN9 := Lib.hid hn9; clear hn9; clear hb9)
  refine ⟨⟨⟨_, HB9.out⟩, rfl⟩, ?_⟩
  rw [wpBl_cons]
  simp only [List.map_nil, opAt, List.getElem?_toArray, List.getElem?_cons_zero, List.getElem?_cons_succ, Option.getD_some]
  refine wpQuiet_nil ?_
  go_wp2_with (go_at_call 15; refine (size_any n l9 _).mono ?_; rintro e w10 ⟨rfl, hb10⟩; have HB10 := Lib.hid (HB9.out.trans (hb10.mono HB9.out.size)); clear hb10)
  refine ⟨⟨⟨_, HB10.out⟩, rfl⟩, ?_⟩
  rw [wpBl_cons]
  simp only [List.map_nil, opAt, List.getElem?_toArray, List.getElem?_cons_zero, List.getElem?_cons_succ, Option.getD_some]
  refine wpQuiet_nil ?_
  go_wp2_with (go_at_call 16; refine (lsize_any n l _).mono ?_; rintro e w11 ⟨rfl, hb11⟩; have HB11 := Lib.hid (HB10.out.trans (hb11.mono HB10.out.size)); clear hb11)
  refine ⟨⟨⟨_, HB11.out⟩, rfl⟩, ?_⟩
  rw [wpBl_nil]
  simp only [List.map_cons, List.map_nil, opAt, List.getElem?_toArray, List.getElem?_cons_zero, List.getElem?_cons_succ, Option.getD_some]
  have heq := HEQ.out
  repeat (go_big_quiet_step (fail))
  refine wpQuiet_nil ?_
  clear heq
  have HW : Hid (Below w.heap.size w w11) := Lib.hid (HW3.out.trans (HB11.out.mono HW3.out.size))
  have HGV := Lib.hid (row_stays HG3.out HB11.out)
  have HXV := Lib.hid (HX1.out.below HB11.out)
  have HNV := Lib.hid (HN3.out.below HB11.out)
  clear HB11 HB10 HB9 HB8 HB7 HB6 HB5 t1 t2 f1 HN9 HN6 HW3 HX1 HX3 HN3 HG3
  have c0 := nd_cell HGV.out 0 _ rfl
  go_upto_region 8 with (first
    | (go_at_call 17; refine (get_back n HNO.out HIN.out A c L HL0.out _ (by rw [HXS.out]; exact HXV.out) HC2.out.2.1 HC2.out.2.2.1).mono ?_; rintro e v1 ⟨m1, rfl, hnm, hb1⟩; have HB1 := Lib.hid hb1; have HNM := Lib.hid hnm; clear hb1 hnm)
    | (refine wpList_store_row rfl 34 (.tmp 7) (.tmp 64) rfl v1.heap.size #[.bool n.leaf, .slice m1.EA n.es.length m1.ec, .slice m1.KA n.ks.length m1.kc, .slice m1.DA n.ds.length m1.dc] rfl rfl 34 #[.bool false, .slice none 0 0, .slice none 0 0, .slice none 0 0] (heap_alloc_new _ _) (by kernel_rfl) rfl (by simp [Value.oneCell']) ?_; rw [World.setRow_alloc_new]))

  obtain ⟨V1, eV1⟩ : ∃ V, V = v1.alloc (.cells #[.bool n.leaf, .slice m1.EA n.es.length m1.ec, .slice m1.KA n.ks.length m1.kc, .slice m1.DA n.ds.length m1.dc] 34) := ⟨_, rfl⟩
  rw [← eV1]
  have hA1 : Below v1.heap.size v1 V1 := by rw [eV1]; exact (Below.refl _ _).alloc (Nat.le_refl _) _
  have G7 : Hid (V1.heap[v1.heap.size]? = some (.cells #[.bool n.leaf, .slice m1.EA n.es.length m1.ec, .slice m1.KA n.ks.length m1.kc, .slice m1.DA n.ds.length m1.dc] 34 (0, 0))) := Lib.hid (by rw [eV1]; exact heap_alloc_new _ _)
  have HV1 := Lib.hid (HB1.out.trans (hA1.mono HB1.out.size))
  have HM1 := Lib.hid (HNM.out.below hA1)
  have c1 := (HV1.out.cell (World.block_lt_of_cell? _ _ c0)).trans c0
  clear c0 hA1 eV1 HB1 HNM
  have HGW : Hid (∀ W', BytesAt W' A XS → Calls Try.prog 17 #[.bool (!n.leaf), .slice A L c] W' fun e w' => e = .returned (.tuple #[.agg #[.bool false, .slice none 0 0, .slice none 0 0, .slice none 0 0], .int .i64 3]) ∧ Below W'.heap.size W' w') := Lib.hid (fun W' hW' => get_wrong n HNO.out _ rfl A c L HL0.out W' (by rw [HXS.out]; exact hW'))
  go_upto_region 9 with (first
    | (go_at_call 17; refine (HGW.out _ (HXV.out.below HV1.out)).mono ?_; rintro e v2 ⟨rfl, hb2⟩; have HB2 := Lib.hid (HV1.out.trans (hb2.mono HV1.out.size)); have HM2 := Lib.hid (HM1.out.below hb2); have G72 := Lib.hid (row_stays G7.out hb2); clear hb2)
    | (refine wpList_store_row rfl 34 (.tmp 9) (.tmp 72) rfl v2.heap.size #[.bool false, .slice none 0 0, .slice none 0 0, .slice none 0 0] rfl rfl 34 #[.bool false, .slice none 0 0, .slice none 0 0, .slice none 0 0] (heap_alloc_new _ _) (by kernel_rfl) rfl (by simp [Value.oneCell']) ?_; rw [World.setRow_alloc_new]))
  obtain ⟨V2, eV2⟩ : ∃ V, V = v2.alloc (.cells #[.bool false, .slice none 0 0, .slice none 0 0, .slice none 0 0] 34) := ⟨_, rfl⟩
  rw [← eV2]
  have hA2 : Below v2.heap.size v2 V2 := by rw [eV2]; exact (Below.refl _ _).alloc (Nat.le_refl _) _
  have HV2 := Lib.hid (HB2.out.trans (hA2.mono HB2.out.size))
  have HMV2 := Lib.hid (HM2.out.below hA2)
  have G7V2 := Lib.hid (row_stays G72.out hA2)
  have HGV2 := Lib.hid (row_stays HGV.out HV2.out)
  have HNV2 := Lib.hid (HNV.out.below HV2.out)
  clear hA2 eV2 HV1 HM1 G7 G72 HM2 HB2 c1 HGW
  go_upto_region 10 with (first
    | (refine wpList_load_row rfl 26 (.tmp 1) rfl w.heap.size rfl 26 _ (0, 0) _ HGV2.out Try.underlying26 rfl (by kernel_rfl) ?_)
    | (go_at_call 10; refine (to_any n l _ HNV2.out HF.out.e HF.out.k HF.out.d).mono ?_; rintro e v3 ⟨l3, rfl, hn3, hb3⟩; have HN3 := Lib.hid hn3; have HB3 := Lib.hid hb3; clear hn3 hb3)
    | (go_at_call 18; refine (least_any n l3 k HK.out _ HN3.out).mono ?_; rintro e v4 ⟨rfl, hb4⟩; have HB4 := Lib.hid (HB3.out.trans (hb4.mono HB3.out.size)); clear hb4)
    | (refine wpList_store_row rfl 46 (.tmp 11) (.tmp 76) rfl v4.heap.size #[.int .i64 k.se, .int .i64 k.st] rfl rfl 46 #[.int .i64 0, .int .i64 0] (heap_alloc_new _ _) (by kernel_rfl) rfl (by simp [Value.oneCell']) ?_; rw [World.setRow_alloc_new]))
  obtain ⟨V4, eV4⟩ : ∃ V, V = v4.alloc (.cells #[.int .i64 k.se, .int .i64 k.st] 46) := ⟨_, rfl⟩
  rw [← eV4]
  have hA4 : Below v4.heap.size v4 V4 := by rw [eV4]; exact (Below.refl _ _).alloc (Nat.le_refl _) _
  have G11 : Hid (V4.heap[v4.heap.size]? = some (.cells #[.int .i64 k.se, .int .i64 k.st] 46 (0, 0))) := Lib.hid (by rw [eV4]; exact heap_alloc_new _ _)
  have HV4 := Lib.hid (HB4.out.trans (hA4.mono HB4.out.size))
  have HM4 := Lib.hid (HMV2.out.below HV4.out)
  have G74 := Lib.hid (row_stays G7V2.out HV4.out)
  have HG4 := Lib.hid (row_stays HGV2.out HV4.out)
  have HN4 := Lib.hid (HNV2.out.below HV4.out)
  have HW4 : Hid (Below w.heap.size w V4) := Lib.hid ((HW.out.trans (HV2.out.mono HW.out.size)).trans (HV4.out.mono (by have := HW.out.size; have := HV2.out.size; omega)))
  clear hA4 eV4 HV4 HB4 HB3 HN3 HMV2 G7V2 HGV2 HNV2 HV2 HNV HGV HXV HW
  go_upto_region 11 with (refine wpList_store_row rfl 48 (.tmp 12) (.tmp 77) rfl V4.heap.size #[.int .i64 0, .int .i64 0] rfl rfl 48 #[.int .i64 0, .int .i64 0] (heap_alloc_new _ _) (by kernel_rfl) rfl (by simp [Value.oneCell']) ?_; rw [World.setRow_alloc_new])
  have hA5 : Below V4.heap.size V4 (V4.alloc (.cells #[.int .i64 0, .int .i64 0] 48)) := (Below.refl _ _).alloc (Nat.le_refl _) _
  have d0 := nd_cell (row_stays HG4.out hA5) 0 _ rfl
  by_cases hl : n.leaf = true
  · have hk := HK.out
    rw [if_pos hl] at hk
    obtain ⟨e0, he0, hke⟩ := hk
    have hpos : 0 < n.es.length := (List.getElem?_eq_some_iff.1 he0).1
    have p1 : decide ((0 : Int) < (n.es.length : Int)) = true := by simp; omega
    obtain ⟨b, off, hEA, hc⟩ := HN4.out.e (by intro e'; rw [e'] at he0; simp at he0)
    obtain ⟨q0, q1, -⟩ := hc 0 e0 he0
    simp only [Nat.zero_mul, Nat.add_zero] at q0 q1
    have d1 : (V4.alloc (.cells #[.int .i64 0, .int .i64 0] 48)).cell? ⟨w.heap.size, 1, none⟩ = some (.slice (some ⟨b, off, none⟩) n.es.length l.ec) := by rw [← hEA]; exact nd_cell (row_stays HG4.out hA5) 1 _ rfl
    have b0 := World.block_lt_of_cell? _ _ q0
    have e0' := (hA5.cell (p := ⟨b, off, none⟩) b0).trans q0
    have e1' := (hA5.cell (p := ⟨b, off + 1, none⟩) b0).trans q1
    rw [hl] at d0
    have hks : e0.se = k.se := by rw [hke]; rfl
    have hkt : e0.st = k.st := by rw [hke]; rfl
    rw [hks] at e0'
    rw [hkt] at e1'
    clear q0 q1 hc hEA hl b0 hke he0 hks hkt
    go_upto_region 14 with (refine wpList_store_row rfl 48 (.tmp 12) (.tmp 84) rfl V4.heap.size #[.int .i64 k.se, .int .i64 k.st] rfl rfl 48 #[.int .i64 0, .int .i64 0] (heap_alloc_new _ _) (by kernel_rfl) rfl (by simp [Value.oneCell']) ?_; rw [World.setRow_alloc_new])
    clear d0 d1 e0' e1' hA5
    obtain ⟨Y, eY⟩ : ∃ Y, Y = V4.alloc (.cells #[.int .i64 k.se, .int .i64 k.st] 48) := ⟨_, rfl⟩
    rw [← eY]
    have hAY : Below V4.heap.size V4 Y := by rw [eY]; exact (Below.refl _ _).alloc (Nat.le_refl _) _
    have g12 : Y.heap[V4.heap.size]? = some (.cells #[.int .i64 k.se, .int .i64 k.st] 48 (0, 0)) := by rw [eY]; exact heap_alloc_new _ _
    have hWY : Hid (Below w.heap.size w Y) := Lib.hid (HW4.out.trans (hAY.mono HW4.out.size))
    have f1 : Hid (∀ y : SubW Y.heap.size Y, y.at_.heap[w.heap.size]? = some (.cells #[.bool n.leaf, .slice l.EA n.es.length l.ec, .slice l.KA n.ks.length l.kc, .slice l.DA n.ds.length l.dc] 26 (0, 0))) := Lib.hid (fun y => row_stays (row_stays HG4.out hAY) y.ok_)
    have f7 : Hid (∀ y : SubW Y.heap.size Y, y.at_.heap[v1.heap.size]? = some (.cells #[.bool n.leaf, .slice m1.EA n.es.length m1.ec, .slice m1.KA n.ks.length m1.kc, .slice m1.DA n.ds.length m1.dc] 34 (0, 0))) := Lib.hid (fun y => row_stays (row_stays G74.out hAY) y.ok_)
    have f11 : Hid (∀ y : SubW Y.heap.size Y, y.at_.heap[v4.heap.size]? = some (.cells #[.int .i64 k.se, .int .i64 k.st] 46 (0, 0))) := Lib.hid (fun y => row_stays (row_stays G11.out hAY) y.ok_)
    have f12 : Hid (∀ y : SubW Y.heap.size Y, y.at_.cell? ⟨V4.heap.size, 0, none⟩ = some (.int .i64 k.se)) := Lib.hid (fun y => nd_cell (row_stays g12 y.ok_) 0 _ rfl)
    have f13 : Hid (∀ y : SubW Y.heap.size Y, y.at_.cell? ⟨V4.heap.size, 1, none⟩ = some (.int .i64 k.st)) := Lib.hid (fun y => nd_cell (row_stays g12 y.ok_) 1 _ rfl)
    have HMY := Lib.hid (HM4.out.below hAY)
    have HNY := Lib.hid (HN4.out.below hAY)
    clear g12 hAY eY HG4 G74 G11 HM4 HN4 HW4
    refine region_overB Y.heap.size (Nat.le_refl _) [([0, 1, 2, 3, 5], 4), ([], 6), ([7, 8, 9, 10, 11, 12, 13, 14, 15, 16, 17], 18)] [19, 20, 21] (by kernel_rfl) (by kernel_rfl) ?_
    rintro wd hbd
    simp only [Act.put]
    rw [wpBl_cons]
    simp only [List.map_cons, List.map_nil, opAt, List.getElem?_toArray, List.getElem?_cons_zero, List.getElem?_cons_succ, Option.getD_some]
    repeat (first
      | (go_big_quiet_want; refine quiet_load_row 26 (.tmp 1) rfl w.heap.size rfl 26 _ (0, 0) _ f1.out Try.underlying26 rfl (by kernel_rfl) ?_; simp only [Act.put, List.setIfInBounds_toArray, List.set_cons_zero, List.set_cons_succ]; go_big_quiet_on)
      | (go_big_quiet_want; refine quiet_load_row 34 (.tmp 7) rfl v1.heap.size rfl 34 _ (0, 0) _ f7.out Try.underlying34 rfl (by kernel_rfl) ?_; simp only [Act.put, List.setIfInBounds_toArray, List.set_cons_zero, List.set_cons_succ]; go_big_quiet_on)
      | go_big_quiet_step (fail))
    refine wpQuiet_nil ?_
    go_wp2_with (go_at_call 20; refine (from_any n m1 _ (HMY.out.below hbd) HF.out.e HF.out.k HF.out.d).mono ?_; rintro e x1 ⟨l8, rfl, hn8, hb8⟩; have HN8 := Lib.hid hn8; have HB8 := Lib.hid (hbd.trans (hb8.mono hbd.size)); clear hn8 hb8)
    refine ⟨⟨⟨_, HB8.out⟩, rfl⟩, ?_⟩
    rw [wpBl_cons]
    simp only [List.map_nil, opAt, List.getElem?_toArray, List.getElem?_cons_zero, List.getElem?_cons_succ, Option.getD_some]
    refine wpQuiet_nil ?_
    go_wp2_with (go_at_call 19; refine (same_yes n l8 l _ HN8.out (HNY.out.below HB8.out)).mono ?_; rintro e x2 ⟨rfl, hb9⟩; have HB9 := Lib.hid (HB8.out.trans (hb9.mono HB8.out.size)); clear hb9)
    refine ⟨⟨⟨_, HB9.out⟩, rfl⟩, ?_⟩
    rw [wpBl_cons]
    simp only [List.map_cons, List.map_nil, opAt, List.getElem?_toArray, List.getElem?_cons_zero, List.getElem?_cons_succ, Option.getD_some]
    have s1 := f12.out
    have s2 := f13.out
    repeat (first
      | (go_big_quiet_want; refine quiet_load_row 46 (.tmp 11) rfl v4.heap.size rfl 46 _ (0, 0) _ f11.out Try.underlying46 rfl (by kernel_rfl) ?_; simp only [Act.put, List.setIfInBounds_toArray, List.set_cons_zero, List.set_cons_succ]; go_big_quiet_on)
      | go_big_quiet_step (fail))
    clear s1 s2
    refine wpQuiet_nil ?_
    go_wp2_with fail
    refine ⟨⟨⟨_, HB9.out⟩, rfl⟩, ?_⟩
    rw [wpBl_nil]
    simp only [List.map_cons, List.map_nil, opAt, List.getElem?_toArray, List.getElem?_cons_zero, List.getElem?_cons_succ, Option.getD_some]
    repeat (first
      | (go_big_quiet_want; refine quiet_binOpN .eql 46 (.tmp 102) (.tmp 107) 46 rfl (.agg #[.int .i64 k.se, .int .i64 k.st]) (.agg #[.int .i64 k.se, .int .i64 k.st]) (.bool true) rfl rfl (fun W => guard_nkey _ _ _ _ _ W) (fun W => eql_nkey _ _ W) ?_; simp only [Act.put, List.setIfInBounds_toArray, List.set_cons_zero, List.set_cons_succ]; go_big_quiet_on)
      | go_big_quiet_step (fail))
    refine wpQuiet_nil ?_
    go_wp2_with fail
    go_ret
    exact ⟨rfl, hWY.out.trans (HB9.out.mono hWY.out.size)⟩
  · have hk := HK.out
    rw [if_neg hl] at hk
    have hpos : 0 < n.ks.length := (List.getElem?_eq_some_iff.1 hk).1
    have p1 : decide ((0 : Int) < (n.ks.length : Int)) = true := by simp; omega
    obtain ⟨b, off, hEA, hc⟩ := HN4.out.k (by intro e'; rw [e'] at hk; simp at hk)
    obtain ⟨q0, q1⟩ := hc 0 k hk
    simp only [Nat.zero_mul, Nat.add_zero] at q0 q1
    have d1 : (V4.alloc (.cells #[.int .i64 0, .int .i64 0] 48)).cell? ⟨w.heap.size, 2, none⟩ = some (.slice (some ⟨b, off, none⟩) n.ks.length l.kc) := by rw [← hEA]; exact nd_cell (row_stays HG4.out hA5) 2 _ rfl
    have b0 := World.block_lt_of_cell? _ _ q0
    have e0' := (hA5.cell (p := ⟨b, off, none⟩) b0).trans q0
    have e1' := (hA5.cell (p := ⟨b, off + 1, none⟩) b0).trans q1
    rw [Bool.eq_false_iff.2 hl] at d0
    clear q0 q1 hc hEA hl b0 hk
    go_upto_region 14 with (refine wpList_store_row rfl 48 (.tmp 12) (.tmp 88) rfl V4.heap.size #[.int .i64 k.se, .int .i64 k.st] rfl rfl 48 #[.int .i64 0, .int .i64 0] (heap_alloc_new _ _) (by kernel_rfl) rfl (by simp [Value.oneCell']) ?_; rw [World.setRow_alloc_new])
    clear d0 d1 e0' e1' hA5
    obtain ⟨Y, eY⟩ : ∃ Y, Y = V4.alloc (.cells #[.int .i64 k.se, .int .i64 k.st] 48) := ⟨_, rfl⟩
    rw [← eY]
    have hAY : Below V4.heap.size V4 Y := by rw [eY]; exact (Below.refl _ _).alloc (Nat.le_refl _) _
    have g12 : Y.heap[V4.heap.size]? = some (.cells #[.int .i64 k.se, .int .i64 k.st] 48 (0, 0)) := by rw [eY]; exact heap_alloc_new _ _
    have hWY : Hid (Below w.heap.size w Y) := Lib.hid (HW4.out.trans (hAY.mono HW4.out.size))
    have f1 : Hid (∀ y : SubW Y.heap.size Y, y.at_.heap[w.heap.size]? = some (.cells #[.bool n.leaf, .slice l.EA n.es.length l.ec, .slice l.KA n.ks.length l.kc, .slice l.DA n.ds.length l.dc] 26 (0, 0))) := Lib.hid (fun y => row_stays (row_stays HG4.out hAY) y.ok_)
    have f7 : Hid (∀ y : SubW Y.heap.size Y, y.at_.heap[v1.heap.size]? = some (.cells #[.bool n.leaf, .slice m1.EA n.es.length m1.ec, .slice m1.KA n.ks.length m1.kc, .slice m1.DA n.ds.length m1.dc] 34 (0, 0))) := Lib.hid (fun y => row_stays (row_stays G74.out hAY) y.ok_)
    have f11 : Hid (∀ y : SubW Y.heap.size Y, y.at_.heap[v4.heap.size]? = some (.cells #[.int .i64 k.se, .int .i64 k.st] 46 (0, 0))) := Lib.hid (fun y => row_stays (row_stays G11.out hAY) y.ok_)
    have f12 : Hid (∀ y : SubW Y.heap.size Y, y.at_.cell? ⟨V4.heap.size, 0, none⟩ = some (.int .i64 k.se)) := Lib.hid (fun y => nd_cell (row_stays g12 y.ok_) 0 _ rfl)
    have f13 : Hid (∀ y : SubW Y.heap.size Y, y.at_.cell? ⟨V4.heap.size, 1, none⟩ = some (.int .i64 k.st)) := Lib.hid (fun y => nd_cell (row_stays g12 y.ok_) 1 _ rfl)
    have HMY := Lib.hid (HM4.out.below hAY)
    have HNY := Lib.hid (HN4.out.below hAY)
    clear g12 hAY eY HG4 G74 G11 HM4 HN4 HW4
    refine region_overB Y.heap.size (Nat.le_refl _) [([0, 1, 2, 3, 5], 4), ([], 6), ([7, 8, 9, 10, 11, 12, 13, 14, 15, 16, 17], 18)] [19, 20, 21] (by kernel_rfl) (by kernel_rfl) ?_
    rintro wd hbd
    simp only [Act.put]
    rw [wpBl_cons]
    simp only [List.map_cons, List.map_nil, opAt, List.getElem?_toArray, List.getElem?_cons_zero, List.getElem?_cons_succ, Option.getD_some]
    repeat (first
      | (go_big_quiet_want; refine quiet_load_row 26 (.tmp 1) rfl w.heap.size rfl 26 _ (0, 0) _ f1.out Try.underlying26 rfl (by kernel_rfl) ?_; simp only [Act.put, List.setIfInBounds_toArray, List.set_cons_zero, List.set_cons_succ]; go_big_quiet_on)
      | (go_big_quiet_want; refine quiet_load_row 34 (.tmp 7) rfl v1.heap.size rfl 34 _ (0, 0) _ f7.out Try.underlying34 rfl (by kernel_rfl) ?_; simp only [Act.put, List.setIfInBounds_toArray, List.set_cons_zero, List.set_cons_succ]; go_big_quiet_on)
      | go_big_quiet_step (fail))
    refine wpQuiet_nil ?_
    go_wp2_with (go_at_call 20; refine (from_any n m1 _ (HMY.out.below hbd) HF.out.e HF.out.k HF.out.d).mono ?_; rintro e x1 ⟨l8, rfl, hn8, hb8⟩; have HN8 := Lib.hid hn8; have HB8 := Lib.hid (hbd.trans (hb8.mono hbd.size)); clear hn8 hb8)
    refine ⟨⟨⟨_, HB8.out⟩, rfl⟩, ?_⟩
    rw [wpBl_cons]
    simp only [List.map_nil, opAt, List.getElem?_toArray, List.getElem?_cons_zero, List.getElem?_cons_succ, Option.getD_some]
    refine wpQuiet_nil ?_
    go_wp2_with (go_at_call 19; refine (same_yes n l8 l _ HN8.out (HNY.out.below HB8.out)).mono ?_; rintro e x2 ⟨rfl, hb9⟩; have HB9 := Lib.hid (HB8.out.trans (hb9.mono HB8.out.size)); clear hb9)
    refine ⟨⟨⟨_, HB9.out⟩, rfl⟩, ?_⟩
    rw [wpBl_cons]
    simp only [List.map_cons, List.map_nil, opAt, List.getElem?_toArray, List.getElem?_cons_zero, List.getElem?_cons_succ, Option.getD_some]
    have s1 := f12.out
    have s2 := f13.out
    repeat (first
      | (go_big_quiet_want; refine quiet_load_row 46 (.tmp 11) rfl v4.heap.size rfl 46 _ (0, 0) _ f11.out Try.underlying46 rfl (by kernel_rfl) ?_; simp only [Act.put, List.setIfInBounds_toArray, List.set_cons_zero, List.set_cons_succ]; go_big_quiet_on)
      | go_big_quiet_step (fail))
    clear s1 s2
    refine wpQuiet_nil ?_
    go_wp2_with fail
    refine ⟨⟨⟨_, HB9.out⟩, rfl⟩, ?_⟩
    rw [wpBl_nil]
    simp only [List.map_cons, List.map_nil, opAt, List.getElem?_toArray, List.getElem?_cons_zero, List.getElem?_cons_succ, Option.getD_some]
    repeat (first
      | (go_big_quiet_want; refine quiet_binOpN .eql 46 (.tmp 102) (.tmp 107) 46 rfl (.agg #[.int .i64 k.se, .int .i64 k.st]) (.agg #[.int .i64 k.se, .int .i64 k.st]) (.bool true) rfl rfl (fun W => guard_nkey _ _ _ _ _ W) (fun W => eql_nkey _ _ W) ?_; simp only [Act.put, List.setIfInBounds_toArray, List.set_cons_zero, List.set_cons_succ]; go_big_quiet_on)
      | go_big_quiet_step (fail))
    refine wpQuiet_nil ?_
    go_wp2_with fail
    go_ret
    exact ⟨rfl, hWY.out.trans (HB9.out.mono hWY.out.size)⟩
end Go.Proofs.Ytgkddhncfaeidaa
