/- NodeGets: of all bytes the node that is told has just these bytes; else there is an error. -/
import Derived.Test.YtgkddhncfaeidaaNqG
import Derived.Test.YtgkddhncfaeidaaTail
namespace Go.Proofs.Ytgkddhncfaeidaa
open Go.ChangeShapes Go.WideShapes Go.ChangeAt Go.RowKit CrcM PageM
set_option linter.unusedVariables false

theorem OwnS.storedN {w : World} {base g n cap : Nat} {E : TypeId} {xs : List UInt8} (h : OwnS w base (.slice (some ⟨g, 0, none⟩) n cap) E xs) (j : Nat) (hj : j < xs.length) (c : UInt8) :
    OwnS (w.setCell ⟨g, j, none⟩ (.int .u8 (c.toNat : Int))) base (.slice (some ⟨g, 0, none⟩) n cap) E (xs.set j c) := by
  have hn := h.caps.1
  subst hn
  have := OwnB.stored (h : OwnB w base g cap E xs) j hj c
  unfold OwnS
  unfold OwnB at this
  rw [List.length_set] at *
  exact this
theorem OwnS.cellAtN {w : World} {base g n cap : Nat} {E : TypeId} {xs : List UInt8} (h : OwnS w base (.slice (some ⟨g, 0, none⟩) n cap) E xs) (j : Nat) (hj : j < xs.length) :
    w.cell? ⟨g, j, none⟩ = some (.int .u8 ((xs.getD j 0).toNat : Int)) ∧ w.frozen? ⟨g, j, none⟩ = false := by
  have hn := h.caps.1
  subst hn
  exact ⟨OwnB.cellAt (h : OwnB w base g cap E xs) j hj, OwnB.frozenAt (h : OwnB w base g cap E xs) j⟩
theorem xor_byte (x : UInt8) (b : Int) : ∃ c : UInt8, bits BinOp.xor IntKind.u8 (x.toNat : Int) (IntKind.u8.wrap b) = (c.toNat : Int) := by
  have h1 := x.toNat_lt
  have h2 : 0 ≤ IntKind.u8.wrap b ∧ IntKind.u8.wrap b < 256 := by rw [IntKind.wrap_u8]; omega
  rw [u8_xor _ _ (by omega) (by omega) h2.1 h2.2]
  have h3 : (x.toNat : Int).toNat ^^^ (IntKind.u8.wrap b).toNat < 2 ^ 8 := Nat.xor_lt_two_pow (by simp; omega) (by omega)
  refine ⟨UInt8.ofNat ((x.toNat : Int).toNat ^^^ (IntKind.u8.wrap b).toNat), ?_⟩
  rw [UInt8.toNat_ofNat']
  congr 1
  exact (Nat.mod_eq_of_lt h3).symm
theorem size_zero (w : World) : Calls Try.prog 15 #[.agg #[.bool false, .slice none 0 0, .slice none 0 0, .slice none 0 0]] w fun e w' => e = .returned (.int .i64 0) ∧ Below w.heap.size w w' :=
  size_any ⟨false, [], [], []⟩ ⟨none, 0, none, 0, none, 0⟩ w
theorem modI (a : Int) (m : Nat) (h0 : 0 < m) (hm : m ≤ 1000000) : ∃ k : Nat, k < m ∧ wrap64 ((IntKind.u64.wrap a).tmod (m : Int)) = (k : Int) := by
  have h1 : 0 ≤ IntKind.u64.wrap a := by rw [IntKind.wrap_u64]; omega
  rw [Int.tmod_eq_emod_of_nonneg h1]
  have h2 : 0 ≤ IntKind.u64.wrap a % (m : Int) := Int.emod_nonneg _ (by omega)
  have h3 : IntKind.u64.wrap a % (m : Int) < (m : Int) := Int.emod_lt_of_pos _ (by omega)
  rw [IntWalk.wrap64_in (IntKind.u64.wrap a % (m : Int)) ⟨by omega, by omega⟩]
  exact ⟨(IntKind.u64.wrap a % (m : Int)).toNat, by omega, by omega⟩
theorem nodeB_bounds {n : NodeD} (h : okNode n) : 1 ≤ (nodeB n).length ∧ (nodeB n).length ≤ 600 := by
  obtain ⟨c, b, e, hc, hb, h1, h2⟩ := nodeB_form h
  rw [e, List.length_cons, hb]
  have hs : sizeP n.leaf = 30 ∨ sizeP n.leaf = 14 := by cases n.leaf <;> simp [sizeP]
  rcases hs with hs | hs <;> rw [hs] <;> omega
theorem bytesAt_take {w : World} {A : Option Addr} {xs : List UInt8} (h : BytesAt w A xs) (k : Nat) : BytesAt w A (xs.take k) := fun hne => by
  obtain ⟨b, off, e, hc⟩ := h (by intro e; apply hne; rw [e]; simp)
  exact ⟨b, off, e, fun i hi => by rw [List.getElem_take]; exact hc i (by rw [List.length_take] at hi; omega)⟩

set_option maxRecDepth 100000 in
set_option maxHeartbeats 16000000 in
theorem nodeGets_no (n : NodeD) (l : NdL) (hn : ¬ okNode n) (hf : FitsN n) (w : World) (h : NodeAt w n l) (a b : Int)  (B : Option Addr) (cap1 : Nat) (ys : List UInt8) (hy : BytesAt w B ys) (hlc : ys.length ≤ cap1) (hcm : cap1 ≤ maxLen) :
    Calls Try.prog 4 #[.agg #[.bool n.leaf, .slice l.EA n.es.length l.ec, .slice l.KA n.ks.length l.kc, .slice l.DA n.ds.length l.dc], .agg #[.int .i64 a, .int .i64 b], .slice B ys.length cap1] w fun e w' => e = .returned (.bool true) ∧ Below w.heap.size w w' := by
  obtain ⟨W, eW⟩ : ∃ W, W = (w.alloc (.cells #[.bool n.leaf, .slice l.EA n.es.length l.ec, .slice l.KA n.ks.length l.kc, .slice l.DA n.ds.length l.dc] 26)).alloc (.cells #[.int .i64 a, .int .i64 b] 54) := ⟨_, rfl⟩
  have hbW : Below w.heap.size w W := by rw [eW]; exact ((Below.refl _ _).alloc (Nat.le_refl _) _).alloc (by simp) _
  have hg0 : W.heap[w.heap.size]? = some (.cells #[.bool n.leaf, .slice l.EA n.es.length l.ec, .slice l.KA n.ks.length l.kc, .slice l.DA n.ds.length l.dc] 26 (0, 0)) := by rw [eW]; exact heap_alloc2_old _ _ _
  have hg1 : W.heap[w.heap.size + 1]? = some (.cells #[.int .i64 a, .int .i64 b] 54 (0, 0)) := by rw [eW]; exact heap_alloc2_new _ _ _
  have HG := Lib.hid hg0
  have HG1 := Lib.hid hg1
  have HN := Lib.hid (h.below hbW)
  have HY := Lib.hid (hy.below hbW)
  have HBW := Lib.hid hbW
  have HNO := Lib.hid hn
  have HLC := Lib.hid hlc
  have HCM := Lib.hid hcm
  obtain ⟨m, hm⟩ : ∃ m, m = min ys.length 250 := ⟨_, rfl⟩
  have hm1 : m ≤ ys.length := by omega
  have hm2 : m ≤ 250 := by omega
  have HM : Hid (min (ys.length : Int) 250 = (m : Int)) := Lib.hid (by omega)
  have HMC : Hid (m ≤ cap1) := Lib.hid (by omega)
  have HM1 := Lib.hid hm1
  have HM2 := Lib.hid hm2
  clear hbW hg0 hg1 hn h hy hlc hcm hm hm1 hm2
  go_enter Try.func4, Try.ntmps4
  go_upto_region 1 with fail
  rw [← eW]
  clear eW

  go_upto_region 7 with (first
    | (refine wpList_load_row rfl 26 (.tmp 3) rfl w.heap.size rfl 26 _ (0, 0) _ HG.out Try.underlying26 rfl (by kernel_rfl) ?_)
    | (go_at_call 11; refine (refPut_no n l HNO.out _ HN.out).mono ?_; rintro e w2 ⟨rfl, hb2⟩; have HB2 := Lib.hid hb2; clear hb2))
  have HX : Hid (BytesAt w2 none []) := Lib.hid (BytesAt.nil _ _)
  have HXL : Hid (([] : List UInt8).length = 0) := Lib.hid rfl
  have HXC : Hid (0 ≤ 0 ∧ 0 ≤ maxLen ∧ 0 ≤ 600) := Lib.hid ⟨by omega, by omega, by omega⟩
  have HY2 := Lib.hid (HY.out.below HB2.out)
  have HW2 : Hid (Below w.heap.size w w2) := Lib.hid (HBW.out.trans (HB2.out.mono HBW.out.size))
  clear HY HN HG HG1 HB2 HBW
  go_upto_region 8 with fail
  go_loopw [10] (fun i wr => ∃ k : Nat, k ≤ 4 ∧ i = .int .i64 k ∧ Below w2.heap.size w2 wr) (fun i _ => 4 - (intOf i).toNat)
  case atStart => exact ⟨0, by omega, rfl, Below.refl _ _⟩
  case round =>
    obtain ⟨k, hk, rfl, hbk⟩ := hrel
    have HBK := Lib.hid hbk
    clear hbk
    obtain rfl | rfl | rfl | rfl | rfl : k = 0 ∨ k = 1 ∨ k = 2 ∨ k = 3 ∨ k = 4 := by omega
    · have hk := HM.out
      have hk2 := HMC.out
      have hk3 : 0 ≤ (m : Int) := by omega
      go_upto_region 14 with (first
        | (go_at_call 17; refine (get_all true none 0 0 [] _ (HX.out.below HBK.out) HXL.out HXC.out.1 HXC.out.2.1 (by have := HXC.out.2.2; omega)).mono ?_; rintro e v1 ⟨hcase, hb1⟩; have HB1 := Lib.hid hb1; clear hb1; rcases hcase with ⟨N, lN, rfl, hN1, hN2, hN3, hN4⟩ | rfl; have HN1 := Lib.hid hN1; have HN2 := Lib.hid hN2; have HN3 := Lib.hid hN3; have HN4 := Lib.hid hN4; clear hN1 hN2 hN3 hN4)
        | (refine wpList_store_row rfl 34 (.tmp 12) (.tmp 64) rfl v1.heap.size #[.bool N.leaf, .slice lN.EA N.es.length lN.ec, .slice lN.KA N.ks.length lN.kc, .slice lN.DA N.ds.length lN.dc] rfl rfl 34 #[.bool false, .slice none 0 0, .slice none 0 0, .slice none 0 0] (heap_alloc_new _ _) (by kernel_rfl) rfl (by simp [Value.oneCell']) ?_; rw [World.setRow_alloc_new])
        | (refine wpList_store_row rfl 34 (.tmp 12) (.tmp 64) rfl v1.heap.size #[.bool false, .slice none 0 0, .slice none 0 0, .slice none 0 0] rfl rfl 34 #[.bool false, .slice none 0 0, .slice none 0 0, .slice none 0 0] (heap_alloc_new _ _) (by kernel_rfl) rfl (by simp [Value.oneCell']) ?_; rw [World.setRow_alloc_new]))
      · obtain ⟨V, eV⟩ : ∃ V, V = v1.alloc (.cells #[.bool N.leaf, .slice lN.EA N.es.length lN.ec, .slice lN.KA N.ks.length lN.kc, .slice lN.DA N.ds.length lN.dc] 34) := ⟨_, rfl⟩
        rw [← eV]
        have hAV : Below v1.heap.size v1 V := by rw [eV]; exact (Below.refl _ _).alloc (Nat.le_refl _) _
        have HV := Lib.hid (HBK.out.trans ((HB1.out.trans (hAV.mono HB1.out.size)).mono HBK.out.size))
        have G12 : Hid (V.heap[v1.heap.size]? = some (.cells #[.bool N.leaf, .slice lN.EA N.es.length lN.ec, .slice lN.KA N.ks.length lN.kc, .slice lN.DA N.ds.length lN.dc] 34 (0, 0))) := Lib.hid (by rw [eV]; exact heap_alloc_new _ _)
        have HNV := Lib.hid (HN1.out.below hAV)
        have HNF := Lib.hid (fits_ok HN2.out)
        have HTX : Hid (BytesAt V none []) := Lib.hid ((show BytesAt _ none [] from HX.out.below HBK.out).below (HB1.out.trans (hAV.mono HB1.out.size)))
        have HXL2 : Hid ([].length = 0) := Lib.hid HXL.out
        clear hAV eV HB1 HN1 hk hk2 hk3
        go_upto_region 18 with (first
          | (refine wpList_load_row rfl 34 (.tmp 12) rfl v1.heap.size rfl 34 _ (0, 0) _ G12.out Try.underlying34 rfl (by kernel_rfl) ?_)
          | (go_at_call 20; refine (from_any N lN _ HNV.out HNF.out.e HNF.out.k HNF.out.d).mono ?_; rintro e x1 ⟨l8, rfl, hn8, hb8⟩; have HN8 := Lib.hid hn8; have HB8 := Lib.hid hb8; clear hn8 hb8)
          | (go_at_call 11; refine (refPut_yes N l8 HN2.out _ HN8.out 0 (by rw [HN4.out]; exact HXL2.out.symm)).mono ?_; rw [HN4.out]; rintro e x2 ⟨A5, c5, rfl, ho5, hb9⟩; have HB9 := Lib.hid (HB8.out.trans (hb9.mono HB8.out.size)); clear hb9; have HO5 := Lib.hid ho5; clear ho5))
        have t1 := text_nd (w := x2) A5 0 c5 [] HXL2.out HO5.out.bytes
        have t2 := text_nd (w := x2) none 0 0 [] HXL2.out (HTX.out.below HB9.out)
        have c0 := nd_cell (row_stays G12.out HB9.out) 0 _ rfl
        simp only [List.getElem_toArray, List.getElem_cons_zero, HN3.out] at c0
        go_wp2_with fail
        go_roundw
        case rel => exact ⟨0 + 1, by omega, by go_num, HV.out.trans (HB9.out.mono HV.out.size)⟩
        case measure => first | (simp [intOf]; done) | (simp [intOf]; omega)
      · obtain ⟨V, eV⟩ : ∃ V, V = v1.alloc (.cells #[.bool false, .slice none 0 0, .slice none 0 0, .slice none 0 0] 34) := ⟨_, rfl⟩
        rw [← eV]
        have hAV : Below v1.heap.size v1 V := by rw [eV]; exact (Below.refl _ _).alloc (Nat.le_refl _) _
        have HV := Lib.hid (HBK.out.trans ((HB1.out.trans (hAV.mono HB1.out.size)).mono HBK.out.size))
        have G12 : Hid (V.heap[v1.heap.size]? = some (.cells #[.bool false, .slice none 0 0, .slice none 0 0, .slice none 0 0] 34 (0, 0))) := Lib.hid (by rw [eV]; exact heap_alloc_new _ _)
        have z0 := nd_cell G12.out 0 _ rfl
        have z1 := nd_cell G12.out 1 _ rfl
        have z2 := nd_cell G12.out 2 _ rfl
        have z3 := nd_cell G12.out 3 _ rfl
        simp only [List.getElem_toArray, List.getElem_cons_zero, List.getElem_cons_succ] at z0 z1 z2 z3
        clear hAV eV HB1 hk hk2 hk3
        go_wp2_with (first
          | (refine wpList_load_row rfl 34 (.tmp 12) rfl v1.heap.size rfl 34 _ (0, 0) _ G12.out Try.underlying34 rfl (by kernel_rfl) ?_)
          | (go_at_call 15; refine (size_zero _).mono ?_; rintro e x1 ⟨rfl, hb8⟩; have HB8 := Lib.hid hb8; clear hb8))
        go_roundw
        case rel => exact ⟨0 + 1, by omega, by go_num, HV.out.trans (HB8.out.mono HV.out.size)⟩
        case measure => first | (simp [intOf]; done) | (simp [intOf]; omega)
    · have hk := HM.out
      have hk2 := HMC.out
      have hk3 : 0 ≤ (m : Int) := by omega
      go_upto_region 14 with (first
        | (go_at_call 17; refine (get_all false none 0 0 [] _ (HX.out.below HBK.out) HXL.out HXC.out.1 HXC.out.2.1 (by have := HXC.out.2.2; omega)).mono ?_; rintro e v1 ⟨hcase, hb1⟩; have HB1 := Lib.hid hb1; clear hb1; rcases hcase with ⟨N, lN, rfl, hN1, hN2, hN3, hN4⟩ | rfl; have HN1 := Lib.hid hN1; have HN2 := Lib.hid hN2; have HN3 := Lib.hid hN3; have HN4 := Lib.hid hN4; clear hN1 hN2 hN3 hN4)
        | (refine wpList_store_row rfl 34 (.tmp 12) (.tmp 64) rfl v1.heap.size #[.bool N.leaf, .slice lN.EA N.es.length lN.ec, .slice lN.KA N.ks.length lN.kc, .slice lN.DA N.ds.length lN.dc] rfl rfl 34 #[.bool false, .slice none 0 0, .slice none 0 0, .slice none 0 0] (heap_alloc_new _ _) (by kernel_rfl) rfl (by simp [Value.oneCell']) ?_; rw [World.setRow_alloc_new])
        | (refine wpList_store_row rfl 34 (.tmp 12) (.tmp 64) rfl v1.heap.size #[.bool false, .slice none 0 0, .slice none 0 0, .slice none 0 0] rfl rfl 34 #[.bool false, .slice none 0 0, .slice none 0 0, .slice none 0 0] (heap_alloc_new _ _) (by kernel_rfl) rfl (by simp [Value.oneCell']) ?_; rw [World.setRow_alloc_new]))
      · obtain ⟨V, eV⟩ : ∃ V, V = v1.alloc (.cells #[.bool N.leaf, .slice lN.EA N.es.length lN.ec, .slice lN.KA N.ks.length lN.kc, .slice lN.DA N.ds.length lN.dc] 34) := ⟨_, rfl⟩
        rw [← eV]
        have hAV : Below v1.heap.size v1 V := by rw [eV]; exact (Below.refl _ _).alloc (Nat.le_refl _) _
        have HV := Lib.hid (HBK.out.trans ((HB1.out.trans (hAV.mono HB1.out.size)).mono HBK.out.size))
        have G12 : Hid (V.heap[v1.heap.size]? = some (.cells #[.bool N.leaf, .slice lN.EA N.es.length lN.ec, .slice lN.KA N.ks.length lN.kc, .slice lN.DA N.ds.length lN.dc] 34 (0, 0))) := Lib.hid (by rw [eV]; exact heap_alloc_new _ _)
        have HNV := Lib.hid (HN1.out.below hAV)
        have HNF := Lib.hid (fits_ok HN2.out)
        have HTX : Hid (BytesAt V none []) := Lib.hid ((show BytesAt _ none [] from HX.out.below HBK.out).below (HB1.out.trans (hAV.mono HB1.out.size)))
        have HXL2 : Hid ([].length = 0) := Lib.hid HXL.out
        clear hAV eV HB1 HN1 hk hk2 hk3
        go_upto_region 18 with (first
          | (refine wpList_load_row rfl 34 (.tmp 12) rfl v1.heap.size rfl 34 _ (0, 0) _ G12.out Try.underlying34 rfl (by kernel_rfl) ?_)
          | (go_at_call 20; refine (from_any N lN _ HNV.out HNF.out.e HNF.out.k HNF.out.d).mono ?_; rintro e x1 ⟨l8, rfl, hn8, hb8⟩; have HN8 := Lib.hid hn8; have HB8 := Lib.hid hb8; clear hn8 hb8)
          | (go_at_call 11; refine (refPut_yes N l8 HN2.out _ HN8.out 0 (by rw [HN4.out]; exact HXL2.out.symm)).mono ?_; rw [HN4.out]; rintro e x2 ⟨A5, c5, rfl, ho5, hb9⟩; have HB9 := Lib.hid (HB8.out.trans (hb9.mono HB8.out.size)); clear hb9; have HO5 := Lib.hid ho5; clear ho5))
        have t1 := text_nd (w := x2) A5 0 c5 [] HXL2.out HO5.out.bytes
        have t2 := text_nd (w := x2) none 0 0 [] HXL2.out (HTX.out.below HB9.out)
        have c0 := nd_cell (row_stays G12.out HB9.out) 0 _ rfl
        simp only [List.getElem_toArray, List.getElem_cons_zero, HN3.out] at c0
        go_wp2_with fail
        go_roundw
        case rel => exact ⟨1 + 1, by omega, by go_num, HV.out.trans (HB9.out.mono HV.out.size)⟩
        case measure => first | (simp [intOf]; done) | (simp [intOf]; omega)
      · obtain ⟨V, eV⟩ : ∃ V, V = v1.alloc (.cells #[.bool false, .slice none 0 0, .slice none 0 0, .slice none 0 0] 34) := ⟨_, rfl⟩
        rw [← eV]
        have hAV : Below v1.heap.size v1 V := by rw [eV]; exact (Below.refl _ _).alloc (Nat.le_refl _) _
        have HV := Lib.hid (HBK.out.trans ((HB1.out.trans (hAV.mono HB1.out.size)).mono HBK.out.size))
        have G12 : Hid (V.heap[v1.heap.size]? = some (.cells #[.bool false, .slice none 0 0, .slice none 0 0, .slice none 0 0] 34 (0, 0))) := Lib.hid (by rw [eV]; exact heap_alloc_new _ _)
        have z0 := nd_cell G12.out 0 _ rfl
        have z1 := nd_cell G12.out 1 _ rfl
        have z2 := nd_cell G12.out 2 _ rfl
        have z3 := nd_cell G12.out 3 _ rfl
        simp only [List.getElem_toArray, List.getElem_cons_zero, List.getElem_cons_succ] at z0 z1 z2 z3
        clear hAV eV HB1 hk hk2 hk3
        go_wp2_with (first
          | (refine wpList_load_row rfl 34 (.tmp 12) rfl v1.heap.size rfl 34 _ (0, 0) _ G12.out Try.underlying34 rfl (by kernel_rfl) ?_)
          | (go_at_call 15; refine (size_zero _).mono ?_; rintro e x1 ⟨rfl, hb8⟩; have HB8 := Lib.hid hb8; clear hb8))
        go_roundw
        case rel => exact ⟨1 + 1, by omega, by go_num, HV.out.trans (HB8.out.mono HV.out.size)⟩
        case measure => first | (simp [intOf]; done) | (simp [intOf]; omega)
    · have hk := HM.out
      have hk2 := HMC.out
      have hk3 : 0 ≤ (m : Int) := by omega
      go_upto_region 14 with (first
        | (go_at_call 17; refine (get_all true B cap1 m (ys.take m) _ (bytesAt_take (HY2.out.below HBK.out) m) (by rw [List.length_take]; have := HM1.out; omega) HMC.out HCM.out (by have := HM2.out; omega)).mono ?_; rintro e v1 ⟨hcase, hb1⟩; have HB1 := Lib.hid hb1; clear hb1; rcases hcase with ⟨N, lN, rfl, hN1, hN2, hN3, hN4⟩ | rfl; have HN1 := Lib.hid hN1; have HN2 := Lib.hid hN2; have HN3 := Lib.hid hN3; have HN4 := Lib.hid hN4; clear hN1 hN2 hN3 hN4)
        | (refine wpList_store_row rfl 34 (.tmp 12) (.tmp 64) rfl v1.heap.size #[.bool N.leaf, .slice lN.EA N.es.length lN.ec, .slice lN.KA N.ks.length lN.kc, .slice lN.DA N.ds.length lN.dc] rfl rfl 34 #[.bool false, .slice none 0 0, .slice none 0 0, .slice none 0 0] (heap_alloc_new _ _) (by kernel_rfl) rfl (by simp [Value.oneCell']) ?_; rw [World.setRow_alloc_new])
        | (refine wpList_store_row rfl 34 (.tmp 12) (.tmp 64) rfl v1.heap.size #[.bool false, .slice none 0 0, .slice none 0 0, .slice none 0 0] rfl rfl 34 #[.bool false, .slice none 0 0, .slice none 0 0, .slice none 0 0] (heap_alloc_new _ _) (by kernel_rfl) rfl (by simp [Value.oneCell']) ?_; rw [World.setRow_alloc_new]))
      · obtain ⟨V, eV⟩ : ∃ V, V = v1.alloc (.cells #[.bool N.leaf, .slice lN.EA N.es.length lN.ec, .slice lN.KA N.ks.length lN.kc, .slice lN.DA N.ds.length lN.dc] 34) := ⟨_, rfl⟩
        rw [← eV]
        have hAV : Below v1.heap.size v1 V := by rw [eV]; exact (Below.refl _ _).alloc (Nat.le_refl _) _
        have HV := Lib.hid (HBK.out.trans ((HB1.out.trans (hAV.mono HB1.out.size)).mono HBK.out.size))
        have G12 : Hid (V.heap[v1.heap.size]? = some (.cells #[.bool N.leaf, .slice lN.EA N.es.length lN.ec, .slice lN.KA N.ks.length lN.kc, .slice lN.DA N.ds.length lN.dc] 34 (0, 0))) := Lib.hid (by rw [eV]; exact heap_alloc_new _ _)
        have HNV := Lib.hid (HN1.out.below hAV)
        have HNF := Lib.hid (fits_ok HN2.out)
        have HTX : Hid (BytesAt V B (ys.take m)) := Lib.hid ((show BytesAt _ B (ys.take m) from bytesAt_take (HY2.out.below HBK.out) m).below (HB1.out.trans (hAV.mono HB1.out.size)))
        have HXL2 : Hid ((ys.take m).length = m) := Lib.hid (by rw [List.length_take]; have := HM1.out; omega)
        clear hAV eV HB1 HN1 hk hk2 hk3
        go_upto_region 18 with (first
          | (refine wpList_load_row rfl 34 (.tmp 12) rfl v1.heap.size rfl 34 _ (0, 0) _ G12.out Try.underlying34 rfl (by kernel_rfl) ?_)
          | (go_at_call 20; refine (from_any N lN _ HNV.out HNF.out.e HNF.out.k HNF.out.d).mono ?_; rintro e x1 ⟨l8, rfl, hn8, hb8⟩; have HN8 := Lib.hid hn8; have HB8 := Lib.hid hb8; clear hn8 hb8)
          | (go_at_call 11; refine (refPut_yes N l8 HN2.out _ HN8.out m (by rw [HN4.out]; exact HXL2.out.symm)).mono ?_; rw [HN4.out]; rintro e x2 ⟨A5, c5, rfl, ho5, hb9⟩; have HB9 := Lib.hid (HB8.out.trans (hb9.mono HB8.out.size)); clear hb9; have HO5 := Lib.hid ho5; clear ho5))
        have t1 := text_nd (w := x2) A5 m c5 (ys.take m) HXL2.out HO5.out.bytes
        have t2 := text_nd (w := x2) B m cap1 (ys.take m) HXL2.out (HTX.out.below HB9.out)
        have c0 := nd_cell (row_stays G12.out HB9.out) 0 _ rfl
        simp only [List.getElem_toArray, List.getElem_cons_zero, HN3.out] at c0
        go_wp2_with fail
        go_roundw
        case rel => exact ⟨2 + 1, by omega, by go_num, HV.out.trans (HB9.out.mono HV.out.size)⟩
        case measure => first | (simp [intOf]; done) | (simp [intOf]; omega)
      · obtain ⟨V, eV⟩ : ∃ V, V = v1.alloc (.cells #[.bool false, .slice none 0 0, .slice none 0 0, .slice none 0 0] 34) := ⟨_, rfl⟩
        rw [← eV]
        have hAV : Below v1.heap.size v1 V := by rw [eV]; exact (Below.refl _ _).alloc (Nat.le_refl _) _
        have HV := Lib.hid (HBK.out.trans ((HB1.out.trans (hAV.mono HB1.out.size)).mono HBK.out.size))
        have G12 : Hid (V.heap[v1.heap.size]? = some (.cells #[.bool false, .slice none 0 0, .slice none 0 0, .slice none 0 0] 34 (0, 0))) := Lib.hid (by rw [eV]; exact heap_alloc_new _ _)
        have z0 := nd_cell G12.out 0 _ rfl
        have z1 := nd_cell G12.out 1 _ rfl
        have z2 := nd_cell G12.out 2 _ rfl
        have z3 := nd_cell G12.out 3 _ rfl
        simp only [List.getElem_toArray, List.getElem_cons_zero, List.getElem_cons_succ] at z0 z1 z2 z3
        clear hAV eV HB1 hk hk2 hk3
        go_wp2_with (first
          | (refine wpList_load_row rfl 34 (.tmp 12) rfl v1.heap.size rfl 34 _ (0, 0) _ G12.out Try.underlying34 rfl (by kernel_rfl) ?_)
          | (go_at_call 15; refine (size_zero _).mono ?_; rintro e x1 ⟨rfl, hb8⟩; have HB8 := Lib.hid hb8; clear hb8))
        go_roundw
        case rel => exact ⟨2 + 1, by omega, by go_num, HV.out.trans (HB8.out.mono HV.out.size)⟩
        case measure => first | (simp [intOf]; done) | (simp [intOf]; omega)
    · have hk := HM.out
      have hk2 := HMC.out
      have hk3 : 0 ≤ (m : Int) := by omega
      go_upto_region 14 with (first
        | (go_at_call 17; refine (get_all false B cap1 m (ys.take m) _ (bytesAt_take (HY2.out.below HBK.out) m) (by rw [List.length_take]; have := HM1.out; omega) HMC.out HCM.out (by have := HM2.out; omega)).mono ?_; rintro e v1 ⟨hcase, hb1⟩; have HB1 := Lib.hid hb1; clear hb1; rcases hcase with ⟨N, lN, rfl, hN1, hN2, hN3, hN4⟩ | rfl; have HN1 := Lib.hid hN1; have HN2 := Lib.hid hN2; have HN3 := Lib.hid hN3; have HN4 := Lib.hid hN4; clear hN1 hN2 hN3 hN4)
        | (refine wpList_store_row rfl 34 (.tmp 12) (.tmp 64) rfl v1.heap.size #[.bool N.leaf, .slice lN.EA N.es.length lN.ec, .slice lN.KA N.ks.length lN.kc, .slice lN.DA N.ds.length lN.dc] rfl rfl 34 #[.bool false, .slice none 0 0, .slice none 0 0, .slice none 0 0] (heap_alloc_new _ _) (by kernel_rfl) rfl (by simp [Value.oneCell']) ?_; rw [World.setRow_alloc_new])
        | (refine wpList_store_row rfl 34 (.tmp 12) (.tmp 64) rfl v1.heap.size #[.bool false, .slice none 0 0, .slice none 0 0, .slice none 0 0] rfl rfl 34 #[.bool false, .slice none 0 0, .slice none 0 0, .slice none 0 0] (heap_alloc_new _ _) (by kernel_rfl) rfl (by simp [Value.oneCell']) ?_; rw [World.setRow_alloc_new]))
      · obtain ⟨V, eV⟩ : ∃ V, V = v1.alloc (.cells #[.bool N.leaf, .slice lN.EA N.es.length lN.ec, .slice lN.KA N.ks.length lN.kc, .slice lN.DA N.ds.length lN.dc] 34) := ⟨_, rfl⟩
        rw [← eV]
        have hAV : Below v1.heap.size v1 V := by rw [eV]; exact (Below.refl _ _).alloc (Nat.le_refl _) _
        have HV := Lib.hid (HBK.out.trans ((HB1.out.trans (hAV.mono HB1.out.size)).mono HBK.out.size))
        have G12 : Hid (V.heap[v1.heap.size]? = some (.cells #[.bool N.leaf, .slice lN.EA N.es.length lN.ec, .slice lN.KA N.ks.length lN.kc, .slice lN.DA N.ds.length lN.dc] 34 (0, 0))) := Lib.hid (by rw [eV]; exact heap_alloc_new _ _)
        have HNV := Lib.hid (HN1.out.below hAV)
        have HNF := Lib.hid (fits_ok HN2.out)
        have HTX : Hid (BytesAt V B (ys.take m)) := Lib.hid ((show BytesAt _ B (ys.take m) from bytesAt_take (HY2.out.below HBK.out) m).below (HB1.out.trans (hAV.mono HB1.out.size)))
        have HXL2 : Hid ((ys.take m).length = m) := Lib.hid (by rw [List.length_take]; have := HM1.out; omega)
        clear hAV eV HB1 HN1 hk hk2 hk3
        go_upto_region 18 with (first
          | (refine wpList_load_row rfl 34 (.tmp 12) rfl v1.heap.size rfl 34 _ (0, 0) _ G12.out Try.underlying34 rfl (by kernel_rfl) ?_)
          | (go_at_call 20; refine (from_any N lN _ HNV.out HNF.out.e HNF.out.k HNF.out.d).mono ?_; rintro e x1 ⟨l8, rfl, hn8, hb8⟩; have HN8 := Lib.hid hn8; have HB8 := Lib.hid hb8; clear hn8 hb8)
          | (go_at_call 11; refine (refPut_yes N l8 HN2.out _ HN8.out m (by rw [HN4.out]; exact HXL2.out.symm)).mono ?_; rw [HN4.out]; rintro e x2 ⟨A5, c5, rfl, ho5, hb9⟩; have HB9 := Lib.hid (HB8.out.trans (hb9.mono HB8.out.size)); clear hb9; have HO5 := Lib.hid ho5; clear ho5))
        have t1 := text_nd (w := x2) A5 m c5 (ys.take m) HXL2.out HO5.out.bytes
        have t2 := text_nd (w := x2) B m cap1 (ys.take m) HXL2.out (HTX.out.below HB9.out)
        have c0 := nd_cell (row_stays G12.out HB9.out) 0 _ rfl
        simp only [List.getElem_toArray, List.getElem_cons_zero, HN3.out] at c0
        go_wp2_with fail
        go_roundw
        case rel => exact ⟨3 + 1, by omega, by go_num, HV.out.trans (HB9.out.mono HV.out.size)⟩
        case measure => first | (simp [intOf]; done) | (simp [intOf]; omega)
      · obtain ⟨V, eV⟩ : ∃ V, V = v1.alloc (.cells #[.bool false, .slice none 0 0, .slice none 0 0, .slice none 0 0] 34) := ⟨_, rfl⟩
        rw [← eV]
        have hAV : Below v1.heap.size v1 V := by rw [eV]; exact (Below.refl _ _).alloc (Nat.le_refl _) _
        have HV := Lib.hid (HBK.out.trans ((HB1.out.trans (hAV.mono HB1.out.size)).mono HBK.out.size))
        have G12 : Hid (V.heap[v1.heap.size]? = some (.cells #[.bool false, .slice none 0 0, .slice none 0 0, .slice none 0 0] 34 (0, 0))) := Lib.hid (by rw [eV]; exact heap_alloc_new _ _)
        have z0 := nd_cell G12.out 0 _ rfl
        have z1 := nd_cell G12.out 1 _ rfl
        have z2 := nd_cell G12.out 2 _ rfl
        have z3 := nd_cell G12.out 3 _ rfl
        simp only [List.getElem_toArray, List.getElem_cons_zero, List.getElem_cons_succ] at z0 z1 z2 z3
        clear hAV eV HB1 hk hk2 hk3
        go_wp2_with (first
          | (refine wpList_load_row rfl 34 (.tmp 12) rfl v1.heap.size rfl 34 _ (0, 0) _ G12.out Try.underlying34 rfl (by kernel_rfl) ?_)
          | (go_at_call 15; refine (size_zero _).mono ?_; rintro e x1 ⟨rfl, hb8⟩; have HB8 := Lib.hid hb8; clear hb8))
        go_roundw
        case rel => exact ⟨3 + 1, by omega, by go_num, HV.out.trans (HB8.out.mono HV.out.size)⟩
        case measure => first | (simp [intOf]; done) | (simp [intOf]; omega)
    · go_wp2_with (go_at_call 12; refine (ndputs_any _).mono ?_; rintro e w5 ⟨rfl, hb5⟩)
      go_ret
      exact ⟨rfl, HW2.out.trans ((HBK.out.trans (hb5.mono HBK.out.size)).mono HW2.out.size)⟩
set_option maxRecDepth 100000 in
set_option maxHeartbeats 16000000 in
theorem nodeGets_cut (n : NodeD) (l : NdL) (hn : okNode n) (hf : FitsN n) (w : World) (h : NodeAt w n l) (a b : Int) (h4 : Hid (b.tmod 5 = 4)) (B : Option Addr) (cap1 : Nat) (ys : List UInt8) (hy : BytesAt w B ys) (hlc : ys.length ≤ cap1) (hcm : cap1 ≤ maxLen) :
    Calls Try.prog 4 #[.agg #[.bool n.leaf, .slice l.EA n.es.length l.ec, .slice l.KA n.ks.length l.kc, .slice l.DA n.ds.length l.dc], .agg #[.int .i64 a, .int .i64 b], .slice B ys.length cap1] w fun e w' => e = .returned (.bool true) ∧ Below w.heap.size w w' := by
  obtain ⟨W, eW⟩ : ∃ W, W = (w.alloc (.cells #[.bool n.leaf, .slice l.EA n.es.length l.ec, .slice l.KA n.ks.length l.kc, .slice l.DA n.ds.length l.dc] 26)).alloc (.cells #[.int .i64 a, .int .i64 b] 54) := ⟨_, rfl⟩
  have hbW : Below w.heap.size w W := by rw [eW]; exact ((Below.refl _ _).alloc (Nat.le_refl _) _).alloc (by simp) _
  have hg0 : W.heap[w.heap.size]? = some (.cells #[.bool n.leaf, .slice l.EA n.es.length l.ec, .slice l.KA n.ks.length l.kc, .slice l.DA n.ds.length l.dc] 26 (0, 0)) := by rw [eW]; exact heap_alloc2_old _ _ _
  have hg1 : W.heap[w.heap.size + 1]? = some (.cells #[.int .i64 a, .int .i64 b] 54 (0, 0)) := by rw [eW]; exact heap_alloc2_new _ _ _
  have HG := Lib.hid hg0
  have HG1 := Lib.hid hg1
  have HN := Lib.hid (h.below hbW)
  have HY := Lib.hid (hy.below hbW)
  have HBW := Lib.hid hbW
  have HNO := Lib.hid hn
  have HLC := Lib.hid hlc
  have HCM := Lib.hid hcm
  obtain ⟨m, hm⟩ : ∃ m, m = min ys.length 250 := ⟨_, rfl⟩
  have hm1 : m ≤ ys.length := by omega
  have hm2 : m ≤ 250 := by omega
  have HM : Hid (min (ys.length : Int) 250 = (m : Int)) := Lib.hid (by omega)
  have HMC : Hid (m ≤ cap1) := Lib.hid (by omega)
  have HM1 := Lib.hid hm1
  have HM2 := Lib.hid hm2
  clear hbW hg0 hg1 hn h hy hlc hcm hm hm1 hm2
  go_enter Try.func4, Try.ntmps4
  go_upto_region 1 with fail
  rw [← eW]
  clear eW

  obtain ⟨XS, hXS⟩ : ∃ XS, nodeB n = XS := ⟨_, rfl⟩
  obtain ⟨L, hL⟩ : ∃ L, L = XS.length := ⟨_, rfl⟩
  obtain ⟨hL1, hL2⟩ : 1 ≤ L ∧ L ≤ 600 := by rw [hL, ← hXS]; exact nodeB_bounds HNO.out
  obtain ⟨K0, hk, hke⟩ := modI a L (by omega) (by omega)
  have HXS := Lib.hid hXS
  have HL := Lib.hid hL
  have HL0 : Hid (L = (nodeB n).length) := Lib.hid (by rw [hXS]; exact hL)
  have HL1 := Lib.hid hL1
  have HL2 := Lib.hid hL2
  have HK := Lib.hid hk
  have HKE := Lib.hid hke
  clear hXS hL hke
  go_upto_region 3 with (first
    | (refine wpList_load_row rfl 26 (.tmp 3) rfl w.heap.size rfl 26 _ (0, 0) _ HG.out Try.underlying26 rfl (by kernel_rfl) ?_)
    | (go_at_call 11; refine (refPut_yes n l HNO.out _ HN.out L HL0.out).mono ?_; rw [HXS.out]; rintro e w2 ⟨A, c, rfl, ho1, hb1⟩; have HB2 := Lib.hid hb1; have HO1 := Lib.hid ho1; clear hb1 ho1))
  obtain ⟨g, hA⟩ : ∃ g, A = some ⟨g, 0, none⟩ := by
    rcases HO1.out.cases with ⟨h1, h2⟩ | ⟨g, cap, h1, _⟩
    · exfalso
      have := HL.out
      rw [h2] at this
      simp at this
      omega
    · injection h1 with h1 _ _
      exact ⟨g, h1⟩
  subst hA
  have HGW1 := Lib.hid (row_stays HG1.out HB2.out)
  have a0 := nd_cell HGW1.out 0 _ rfl
  have a1 := nd_cell HGW1.out 1 _ rfl
  simp only [List.getElem_toArray, List.getElem_cons_zero, List.getElem_cons_succ] at a0 a1
  have u0 : IntKind.u64.wrap (L : Int) = (L : Int) := by rw [IntKind.wrap_u64]; omega
  have u1 : (L : Int) ≠ 0 := by omega
  go_upto_region 4 with fail
  rw [HKE.out]
  clear u0 u1
  have q1 : (b.tmod 5 == 4) = true := by rw [h4.out]; rfl
  have q2 : (wrap64 (b.tmod 5) == 4) = true := by rw [h4.out]; simp [wrap64]
  have hcap := HO1.out.caps.2.1
  have r1 : (K0 : Int) ≤ (c : Int) := by have := HK.out; omega
  have r2 : (0 : Int) ≤ (K0 : Int) := by omega
  go_upto_region 7 with fail
  have HX : Hid (BytesAt w2 (some ⟨g, 0, none⟩) (XS.take K0)) := Lib.hid (bytesAt_take HO1.out.bytes K0)
  have HXL : Hid ((XS.take K0).length = K0) := Lib.hid (by rw [List.length_take]; have := HL.out; have := HK.out; omega)
  have HXC : Hid (K0 ≤ c ∧ c ≤ maxLen ∧ K0 ≤ 600) := Lib.hid ⟨by have := HK.out; omega, HO1.out.caps.2.2.1, by have := HK.out; have := HL2.out; omega⟩
  clear q1 q2 r1 r2 hcap a0 a1 HGW1 hk hL1 hL2 HO1
  have HY2 := Lib.hid (HY.out.below HB2.out)
  have HW2 : Hid (Below w.heap.size w w2) := Lib.hid (HBW.out.trans (HB2.out.mono HBW.out.size))
  clear HY HN HG HG1 HB2 HBW
  go_upto_region 8 with fail
  go_loopw [10] (fun i wr => ∃ k : Nat, k ≤ 4 ∧ i = .int .i64 k ∧ Below w2.heap.size w2 wr) (fun i _ => 4 - (intOf i).toNat)
  case atStart => exact ⟨0, by omega, rfl, Below.refl _ _⟩
  case round =>
    obtain ⟨k, hk, rfl, hbk⟩ := hrel
    have HBK := Lib.hid hbk
    clear hbk
    obtain rfl | rfl | rfl | rfl | rfl : k = 0 ∨ k = 1 ∨ k = 2 ∨ k = 3 ∨ k = 4 := by omega
    · have hk := HM.out
      have hk2 := HMC.out
      have hk3 : 0 ≤ (m : Int) := by omega
      go_upto_region 14 with (first
        | (go_at_call 17; refine (get_all true (some ⟨g, 0, none⟩) c K0 (XS.take K0) _ (HX.out.below HBK.out) HXL.out HXC.out.1 HXC.out.2.1 (by have := HXC.out.2.2; omega)).mono ?_; rintro e v1 ⟨hcase, hb1⟩; have HB1 := Lib.hid hb1; clear hb1; rcases hcase with ⟨N, lN, rfl, hN1, hN2, hN3, hN4⟩ | rfl; have HN1 := Lib.hid hN1; have HN2 := Lib.hid hN2; have HN3 := Lib.hid hN3; have HN4 := Lib.hid hN4; clear hN1 hN2 hN3 hN4)
        | (refine wpList_store_row rfl 34 (.tmp 12) (.tmp 64) rfl v1.heap.size #[.bool N.leaf, .slice lN.EA N.es.length lN.ec, .slice lN.KA N.ks.length lN.kc, .slice lN.DA N.ds.length lN.dc] rfl rfl 34 #[.bool false, .slice none 0 0, .slice none 0 0, .slice none 0 0] (heap_alloc_new _ _) (by kernel_rfl) rfl (by simp [Value.oneCell']) ?_; rw [World.setRow_alloc_new])
        | (refine wpList_store_row rfl 34 (.tmp 12) (.tmp 64) rfl v1.heap.size #[.bool false, .slice none 0 0, .slice none 0 0, .slice none 0 0] rfl rfl 34 #[.bool false, .slice none 0 0, .slice none 0 0, .slice none 0 0] (heap_alloc_new _ _) (by kernel_rfl) rfl (by simp [Value.oneCell']) ?_; rw [World.setRow_alloc_new]))
      · obtain ⟨V, eV⟩ : ∃ V, V = v1.alloc (.cells #[.bool N.leaf, .slice lN.EA N.es.length lN.ec, .slice lN.KA N.ks.length lN.kc, .slice lN.DA N.ds.length lN.dc] 34) := ⟨_, rfl⟩
        rw [← eV]
        have hAV : Below v1.heap.size v1 V := by rw [eV]; exact (Below.refl _ _).alloc (Nat.le_refl _) _
        have HV := Lib.hid (HBK.out.trans ((HB1.out.trans (hAV.mono HB1.out.size)).mono HBK.out.size))
        have G12 : Hid (V.heap[v1.heap.size]? = some (.cells #[.bool N.leaf, .slice lN.EA N.es.length lN.ec, .slice lN.KA N.ks.length lN.kc, .slice lN.DA N.ds.length lN.dc] 34 (0, 0))) := Lib.hid (by rw [eV]; exact heap_alloc_new _ _)
        have HNV := Lib.hid (HN1.out.below hAV)
        have HNF := Lib.hid (fits_ok HN2.out)
        have HTX : Hid (BytesAt V (some ⟨g, 0, none⟩) (XS.take K0)) := Lib.hid ((show BytesAt _ (some ⟨g, 0, none⟩) (XS.take K0) from HX.out.below HBK.out).below (HB1.out.trans (hAV.mono HB1.out.size)))
        have HXL2 : Hid ((XS.take K0).length = K0) := Lib.hid HXL.out
        clear hAV eV HB1 HN1 hk hk2 hk3
        go_upto_region 18 with (first
          | (refine wpList_load_row rfl 34 (.tmp 12) rfl v1.heap.size rfl 34 _ (0, 0) _ G12.out Try.underlying34 rfl (by kernel_rfl) ?_)
          | (go_at_call 20; refine (from_any N lN _ HNV.out HNF.out.e HNF.out.k HNF.out.d).mono ?_; rintro e x1 ⟨l8, rfl, hn8, hb8⟩; have HN8 := Lib.hid hn8; have HB8 := Lib.hid hb8; clear hn8 hb8)
          | (go_at_call 11; refine (refPut_yes N l8 HN2.out _ HN8.out K0 (by rw [HN4.out]; exact HXL2.out.symm)).mono ?_; rw [HN4.out]; rintro e x2 ⟨A5, c5, rfl, ho5, hb9⟩; have HB9 := Lib.hid (HB8.out.trans (hb9.mono HB8.out.size)); clear hb9; have HO5 := Lib.hid ho5; clear ho5))
        have t1 := text_nd (w := x2) A5 K0 c5 (XS.take K0) HXL2.out HO5.out.bytes
        have t2 := text_nd (w := x2) (some ⟨g, 0, none⟩) K0 c (XS.take K0) HXL2.out (HTX.out.below HB9.out)
        have c0 := nd_cell (row_stays G12.out HB9.out) 0 _ rfl
        simp only [List.getElem_toArray, List.getElem_cons_zero, HN3.out] at c0
        go_wp2_with fail
        go_roundw
        case rel => exact ⟨0 + 1, by omega, by go_num, HV.out.trans (HB9.out.mono HV.out.size)⟩
        case measure => first | (simp [intOf]; done) | (simp [intOf]; omega)
      · obtain ⟨V, eV⟩ : ∃ V, V = v1.alloc (.cells #[.bool false, .slice none 0 0, .slice none 0 0, .slice none 0 0] 34) := ⟨_, rfl⟩
        rw [← eV]
        have hAV : Below v1.heap.size v1 V := by rw [eV]; exact (Below.refl _ _).alloc (Nat.le_refl _) _
        have HV := Lib.hid (HBK.out.trans ((HB1.out.trans (hAV.mono HB1.out.size)).mono HBK.out.size))
        have G12 : Hid (V.heap[v1.heap.size]? = some (.cells #[.bool false, .slice none 0 0, .slice none 0 0, .slice none 0 0] 34 (0, 0))) := Lib.hid (by rw [eV]; exact heap_alloc_new _ _)
        have z0 := nd_cell G12.out 0 _ rfl
        have z1 := nd_cell G12.out 1 _ rfl
        have z2 := nd_cell G12.out 2 _ rfl
        have z3 := nd_cell G12.out 3 _ rfl
        simp only [List.getElem_toArray, List.getElem_cons_zero, List.getElem_cons_succ] at z0 z1 z2 z3
        clear hAV eV HB1 hk hk2 hk3
        go_wp2_with (first
          | (refine wpList_load_row rfl 34 (.tmp 12) rfl v1.heap.size rfl 34 _ (0, 0) _ G12.out Try.underlying34 rfl (by kernel_rfl) ?_)
          | (go_at_call 15; refine (size_zero _).mono ?_; rintro e x1 ⟨rfl, hb8⟩; have HB8 := Lib.hid hb8; clear hb8))
        go_roundw
        case rel => exact ⟨0 + 1, by omega, by go_num, HV.out.trans (HB8.out.mono HV.out.size)⟩
        case measure => first | (simp [intOf]; done) | (simp [intOf]; omega)
    · have hk := HM.out
      have hk2 := HMC.out
      have hk3 : 0 ≤ (m : Int) := by omega
      go_upto_region 14 with (first
        | (go_at_call 17; refine (get_all false (some ⟨g, 0, none⟩) c K0 (XS.take K0) _ (HX.out.below HBK.out) HXL.out HXC.out.1 HXC.out.2.1 (by have := HXC.out.2.2; omega)).mono ?_; rintro e v1 ⟨hcase, hb1⟩; have HB1 := Lib.hid hb1; clear hb1; rcases hcase with ⟨N, lN, rfl, hN1, hN2, hN3, hN4⟩ | rfl; have HN1 := Lib.hid hN1; have HN2 := Lib.hid hN2; have HN3 := Lib.hid hN3; have HN4 := Lib.hid hN4; clear hN1 hN2 hN3 hN4)
        | (refine wpList_store_row rfl 34 (.tmp 12) (.tmp 64) rfl v1.heap.size #[.bool N.leaf, .slice lN.EA N.es.length lN.ec, .slice lN.KA N.ks.length lN.kc, .slice lN.DA N.ds.length lN.dc] rfl rfl 34 #[.bool false, .slice none 0 0, .slice none 0 0, .slice none 0 0] (heap_alloc_new _ _) (by kernel_rfl) rfl (by simp [Value.oneCell']) ?_; rw [World.setRow_alloc_new])
        | (refine wpList_store_row rfl 34 (.tmp 12) (.tmp 64) rfl v1.heap.size #[.bool false, .slice none 0 0, .slice none 0 0, .slice none 0 0] rfl rfl 34 #[.bool false, .slice none 0 0, .slice none 0 0, .slice none 0 0] (heap_alloc_new _ _) (by kernel_rfl) rfl (by simp [Value.oneCell']) ?_; rw [World.setRow_alloc_new]))
      · obtain ⟨V, eV⟩ : ∃ V, V = v1.alloc (.cells #[.bool N.leaf, .slice lN.EA N.es.length lN.ec, .slice lN.KA N.ks.length lN.kc, .slice lN.DA N.ds.length lN.dc] 34) := ⟨_, rfl⟩
        rw [← eV]
        have hAV : Below v1.heap.size v1 V := by rw [eV]; exact (Below.refl _ _).alloc (Nat.le_refl _) _
        have HV := Lib.hid (HBK.out.trans ((HB1.out.trans (hAV.mono HB1.out.size)).mono HBK.out.size))
        have G12 : Hid (V.heap[v1.heap.size]? = some (.cells #[.bool N.leaf, .slice lN.EA N.es.length lN.ec, .slice lN.KA N.ks.length lN.kc, .slice lN.DA N.ds.length lN.dc] 34 (0, 0))) := Lib.hid (by rw [eV]; exact heap_alloc_new _ _)
        have HNV := Lib.hid (HN1.out.below hAV)
        have HNF := Lib.hid (fits_ok HN2.out)
        have HTX : Hid (BytesAt V (some ⟨g, 0, none⟩) (XS.take K0)) := Lib.hid ((show BytesAt _ (some ⟨g, 0, none⟩) (XS.take K0) from HX.out.below HBK.out).below (HB1.out.trans (hAV.mono HB1.out.size)))
        have HXL2 : Hid ((XS.take K0).length = K0) := Lib.hid HXL.out
        clear hAV eV HB1 HN1 hk hk2 hk3
        go_upto_region 18 with (first
          | (refine wpList_load_row rfl 34 (.tmp 12) rfl v1.heap.size rfl 34 _ (0, 0) _ G12.out Try.underlying34 rfl (by kernel_rfl) ?_)
          | (go_at_call 20; refine (from_any N lN _ HNV.out HNF.out.e HNF.out.k HNF.out.d).mono ?_; rintro e x1 ⟨l8, rfl, hn8, hb8⟩; have HN8 := Lib.hid hn8; have HB8 := Lib.hid hb8; clear hn8 hb8)
          | (go_at_call 11; refine (refPut_yes N l8 HN2.out _ HN8.out K0 (by rw [HN4.out]; exact HXL2.out.symm)).mono ?_; rw [HN4.out]; rintro e x2 ⟨A5, c5, rfl, ho5, hb9⟩; have HB9 := Lib.hid (HB8.out.trans (hb9.mono HB8.out.size)); clear hb9; have HO5 := Lib.hid ho5; clear ho5))
        have t1 := text_nd (w := x2) A5 K0 c5 (XS.take K0) HXL2.out HO5.out.bytes
        have t2 := text_nd (w := x2) (some ⟨g, 0, none⟩) K0 c (XS.take K0) HXL2.out (HTX.out.below HB9.out)
        have c0 := nd_cell (row_stays G12.out HB9.out) 0 _ rfl
        simp only [List.getElem_toArray, List.getElem_cons_zero, HN3.out] at c0
        go_wp2_with fail
        go_roundw
        case rel => exact ⟨1 + 1, by omega, by go_num, HV.out.trans (HB9.out.mono HV.out.size)⟩
        case measure => first | (simp [intOf]; done) | (simp [intOf]; omega)
      · obtain ⟨V, eV⟩ : ∃ V, V = v1.alloc (.cells #[.bool false, .slice none 0 0, .slice none 0 0, .slice none 0 0] 34) := ⟨_, rfl⟩
        rw [← eV]
        have hAV : Below v1.heap.size v1 V := by rw [eV]; exact (Below.refl _ _).alloc (Nat.le_refl _) _
        have HV := Lib.hid (HBK.out.trans ((HB1.out.trans (hAV.mono HB1.out.size)).mono HBK.out.size))
        have G12 : Hid (V.heap[v1.heap.size]? = some (.cells #[.bool false, .slice none 0 0, .slice none 0 0, .slice none 0 0] 34 (0, 0))) := Lib.hid (by rw [eV]; exact heap_alloc_new _ _)
        have z0 := nd_cell G12.out 0 _ rfl
        have z1 := nd_cell G12.out 1 _ rfl
        have z2 := nd_cell G12.out 2 _ rfl
        have z3 := nd_cell G12.out 3 _ rfl
        simp only [List.getElem_toArray, List.getElem_cons_zero, List.getElem_cons_succ] at z0 z1 z2 z3
        clear hAV eV HB1 hk hk2 hk3
        go_wp2_with (first
          | (refine wpList_load_row rfl 34 (.tmp 12) rfl v1.heap.size rfl 34 _ (0, 0) _ G12.out Try.underlying34 rfl (by kernel_rfl) ?_)
          | (go_at_call 15; refine (size_zero _).mono ?_; rintro e x1 ⟨rfl, hb8⟩; have HB8 := Lib.hid hb8; clear hb8))
        go_roundw
        case rel => exact ⟨1 + 1, by omega, by go_num, HV.out.trans (HB8.out.mono HV.out.size)⟩
        case measure => first | (simp [intOf]; done) | (simp [intOf]; omega)
    · have hk := HM.out
      have hk2 := HMC.out
      have hk3 : 0 ≤ (m : Int) := by omega
      go_upto_region 14 with (first
        | (go_at_call 17; refine (get_all true B cap1 m (ys.take m) _ (bytesAt_take (HY2.out.below HBK.out) m) (by rw [List.length_take]; have := HM1.out; omega) HMC.out HCM.out (by have := HM2.out; omega)).mono ?_; rintro e v1 ⟨hcase, hb1⟩; have HB1 := Lib.hid hb1; clear hb1; rcases hcase with ⟨N, lN, rfl, hN1, hN2, hN3, hN4⟩ | rfl; have HN1 := Lib.hid hN1; have HN2 := Lib.hid hN2; have HN3 := Lib.hid hN3; have HN4 := Lib.hid hN4; clear hN1 hN2 hN3 hN4)
        | (refine wpList_store_row rfl 34 (.tmp 12) (.tmp 64) rfl v1.heap.size #[.bool N.leaf, .slice lN.EA N.es.length lN.ec, .slice lN.KA N.ks.length lN.kc, .slice lN.DA N.ds.length lN.dc] rfl rfl 34 #[.bool false, .slice none 0 0, .slice none 0 0, .slice none 0 0] (heap_alloc_new _ _) (by kernel_rfl) rfl (by simp [Value.oneCell']) ?_; rw [World.setRow_alloc_new])
        | (refine wpList_store_row rfl 34 (.tmp 12) (.tmp 64) rfl v1.heap.size #[.bool false, .slice none 0 0, .slice none 0 0, .slice none 0 0] rfl rfl 34 #[.bool false, .slice none 0 0, .slice none 0 0, .slice none 0 0] (heap_alloc_new _ _) (by kernel_rfl) rfl (by simp [Value.oneCell']) ?_; rw [World.setRow_alloc_new]))
      · obtain ⟨V, eV⟩ : ∃ V, V = v1.alloc (.cells #[.bool N.leaf, .slice lN.EA N.es.length lN.ec, .slice lN.KA N.ks.length lN.kc, .slice lN.DA N.ds.length lN.dc] 34) := ⟨_, rfl⟩
        rw [← eV]
        have hAV : Below v1.heap.size v1 V := by rw [eV]; exact (Below.refl _ _).alloc (Nat.le_refl _) _
        have HV := Lib.hid (HBK.out.trans ((HB1.out.trans (hAV.mono HB1.out.size)).mono HBK.out.size))
        have G12 : Hid (V.heap[v1.heap.size]? = some (.cells #[.bool N.leaf, .slice lN.EA N.es.length lN.ec, .slice lN.KA N.ks.length lN.kc, .slice lN.DA N.ds.length lN.dc] 34 (0, 0))) := Lib.hid (by rw [eV]; exact heap_alloc_new _ _)
        have HNV := Lib.hid (HN1.out.below hAV)
        have HNF := Lib.hid (fits_ok HN2.out)
        have HTX : Hid (BytesAt V B (ys.take m)) := Lib.hid ((show BytesAt _ B (ys.take m) from bytesAt_take (HY2.out.below HBK.out) m).below (HB1.out.trans (hAV.mono HB1.out.size)))
        have HXL2 : Hid ((ys.take m).length = m) := Lib.hid (by rw [List.length_take]; have := HM1.out; omega)
        clear hAV eV HB1 HN1 hk hk2 hk3
        go_upto_region 18 with (first
          | (refine wpList_load_row rfl 34 (.tmp 12) rfl v1.heap.size rfl 34 _ (0, 0) _ G12.out Try.underlying34 rfl (by kernel_rfl) ?_)
          | (go_at_call 20; refine (from_any N lN _ HNV.out HNF.out.e HNF.out.k HNF.out.d).mono ?_; rintro e x1 ⟨l8, rfl, hn8, hb8⟩; have HN8 := Lib.hid hn8; have HB8 := Lib.hid hb8; clear hn8 hb8)
          | (go_at_call 11; refine (refPut_yes N l8 HN2.out _ HN8.out m (by rw [HN4.out]; exact HXL2.out.symm)).mono ?_; rw [HN4.out]; rintro e x2 ⟨A5, c5, rfl, ho5, hb9⟩; have HB9 := Lib.hid (HB8.out.trans (hb9.mono HB8.out.size)); clear hb9; have HO5 := Lib.hid ho5; clear ho5))
        have t1 := text_nd (w := x2) A5 m c5 (ys.take m) HXL2.out HO5.out.bytes
        have t2 := text_nd (w := x2) B m cap1 (ys.take m) HXL2.out (HTX.out.below HB9.out)
        have c0 := nd_cell (row_stays G12.out HB9.out) 0 _ rfl
        simp only [List.getElem_toArray, List.getElem_cons_zero, HN3.out] at c0
        go_wp2_with fail
        go_roundw
        case rel => exact ⟨2 + 1, by omega, by go_num, HV.out.trans (HB9.out.mono HV.out.size)⟩
        case measure => first | (simp [intOf]; done) | (simp [intOf]; omega)
      · obtain ⟨V, eV⟩ : ∃ V, V = v1.alloc (.cells #[.bool false, .slice none 0 0, .slice none 0 0, .slice none 0 0] 34) := ⟨_, rfl⟩
        rw [← eV]
        have hAV : Below v1.heap.size v1 V := by rw [eV]; exact (Below.refl _ _).alloc (Nat.le_refl _) _
        have HV := Lib.hid (HBK.out.trans ((HB1.out.trans (hAV.mono HB1.out.size)).mono HBK.out.size))
        have G12 : Hid (V.heap[v1.heap.size]? = some (.cells #[.bool false, .slice none 0 0, .slice none 0 0, .slice none 0 0] 34 (0, 0))) := Lib.hid (by rw [eV]; exact heap_alloc_new _ _)
        have z0 := nd_cell G12.out 0 _ rfl
        have z1 := nd_cell G12.out 1 _ rfl
        have z2 := nd_cell G12.out 2 _ rfl
        have z3 := nd_cell G12.out 3 _ rfl
        simp only [List.getElem_toArray, List.getElem_cons_zero, List.getElem_cons_succ] at z0 z1 z2 z3
        clear hAV eV HB1 hk hk2 hk3
        go_wp2_with (first
          | (refine wpList_load_row rfl 34 (.tmp 12) rfl v1.heap.size rfl 34 _ (0, 0) _ G12.out Try.underlying34 rfl (by kernel_rfl) ?_)
          | (go_at_call 15; refine (size_zero _).mono ?_; rintro e x1 ⟨rfl, hb8⟩; have HB8 := Lib.hid hb8; clear hb8))
        go_roundw
        case rel => exact ⟨2 + 1, by omega, by go_num, HV.out.trans (HB8.out.mono HV.out.size)⟩
        case measure => first | (simp [intOf]; done) | (simp [intOf]; omega)
    · have hk := HM.out
      have hk2 := HMC.out
      have hk3 : 0 ≤ (m : Int) := by omega
      go_upto_region 14 with (first
        | (go_at_call 17; refine (get_all false B cap1 m (ys.take m) _ (bytesAt_take (HY2.out.below HBK.out) m) (by rw [List.length_take]; have := HM1.out; omega) HMC.out HCM.out (by have := HM2.out; omega)).mono ?_; rintro e v1 ⟨hcase, hb1⟩; have HB1 := Lib.hid hb1; clear hb1; rcases hcase with ⟨N, lN, rfl, hN1, hN2, hN3, hN4⟩ | rfl; have HN1 := Lib.hid hN1; have HN2 := Lib.hid hN2; have HN3 := Lib.hid hN3; have HN4 := Lib.hid hN4; clear hN1 hN2 hN3 hN4)
        | (refine wpList_store_row rfl 34 (.tmp 12) (.tmp 64) rfl v1.heap.size #[.bool N.leaf, .slice lN.EA N.es.length lN.ec, .slice lN.KA N.ks.length lN.kc, .slice lN.DA N.ds.length lN.dc] rfl rfl 34 #[.bool false, .slice none 0 0, .slice none 0 0, .slice none 0 0] (heap_alloc_new _ _) (by kernel_rfl) rfl (by simp [Value.oneCell']) ?_; rw [World.setRow_alloc_new])
        | (refine wpList_store_row rfl 34 (.tmp 12) (.tmp 64) rfl v1.heap.size #[.bool false, .slice none 0 0, .slice none 0 0, .slice none 0 0] rfl rfl 34 #[.bool false, .slice none 0 0, .slice none 0 0, .slice none 0 0] (heap_alloc_new _ _) (by kernel_rfl) rfl (by simp [Value.oneCell']) ?_; rw [World.setRow_alloc_new]))
      · obtain ⟨V, eV⟩ : ∃ V, V = v1.alloc (.cells #[.bool N.leaf, .slice lN.EA N.es.length lN.ec, .slice lN.KA N.ks.length lN.kc, .slice lN.DA N.ds.length lN.dc] 34) := ⟨_, rfl⟩
        rw [← eV]
        have hAV : Below v1.heap.size v1 V := by rw [eV]; exact (Below.refl _ _).alloc (Nat.le_refl _) _
        have HV := Lib.hid (HBK.out.trans ((HB1.out.trans (hAV.mono HB1.out.size)).mono HBK.out.size))
        have G12 : Hid (V.heap[v1.heap.size]? = some (.cells #[.bool N.leaf, .slice lN.EA N.es.length lN.ec, .slice lN.KA N.ks.length lN.kc, .slice lN.DA N.ds.length lN.dc] 34 (0, 0))) := Lib.hid (by rw [eV]; exact heap_alloc_new _ _)
        have HNV := Lib.hid (HN1.out.below hAV)
        have HNF := Lib.hid (fits_ok HN2.out)
        have HTX : Hid (BytesAt V B (ys.take m)) := Lib.hid ((show BytesAt _ B (ys.take m) from bytesAt_take (HY2.out.below HBK.out) m).below (HB1.out.trans (hAV.mono HB1.out.size)))
        have HXL2 : Hid ((ys.take m).length = m) := Lib.hid (by rw [List.length_take]; have := HM1.out; omega)
        clear hAV eV HB1 HN1 hk hk2 hk3
        go_upto_region 18 with (first
          | (refine wpList_load_row rfl 34 (.tmp 12) rfl v1.heap.size rfl 34 _ (0, 0) _ G12.out Try.underlying34 rfl (by kernel_rfl) ?_)
          | (go_at_call 20; refine (from_any N lN _ HNV.out HNF.out.e HNF.out.k HNF.out.d).mono ?_; rintro e x1 ⟨l8, rfl, hn8, hb8⟩; have HN8 := Lib.hid hn8; have HB8 := Lib.hid hb8; clear hn8 hb8)
          | (go_at_call 11; refine (refPut_yes N l8 HN2.out _ HN8.out m (by rw [HN4.out]; exact HXL2.out.symm)).mono ?_; rw [HN4.out]; rintro e x2 ⟨A5, c5, rfl, ho5, hb9⟩; have HB9 := Lib.hid (HB8.out.trans (hb9.mono HB8.out.size)); clear hb9; have HO5 := Lib.hid ho5; clear ho5))
        have t1 := text_nd (w := x2) A5 m c5 (ys.take m) HXL2.out HO5.out.bytes
        have t2 := text_nd (w := x2) B m cap1 (ys.take m) HXL2.out (HTX.out.below HB9.out)
        have c0 := nd_cell (row_stays G12.out HB9.out) 0 _ rfl
        simp only [List.getElem_toArray, List.getElem_cons_zero, HN3.out] at c0
        go_wp2_with fail
        go_roundw
        case rel => exact ⟨3 + 1, by omega, by go_num, HV.out.trans (HB9.out.mono HV.out.size)⟩
        case measure => first | (simp [intOf]; done) | (simp [intOf]; omega)
      · obtain ⟨V, eV⟩ : ∃ V, V = v1.alloc (.cells #[.bool false, .slice none 0 0, .slice none 0 0, .slice none 0 0] 34) := ⟨_, rfl⟩
        rw [← eV]
        have hAV : Below v1.heap.size v1 V := by rw [eV]; exact (Below.refl _ _).alloc (Nat.le_refl _) _
        have HV := Lib.hid (HBK.out.trans ((HB1.out.trans (hAV.mono HB1.out.size)).mono HBK.out.size))
        have G12 : Hid (V.heap[v1.heap.size]? = some (.cells #[.bool false, .slice none 0 0, .slice none 0 0, .slice none 0 0] 34 (0, 0))) := Lib.hid (by rw [eV]; exact heap_alloc_new _ _)
        have z0 := nd_cell G12.out 0 _ rfl
        have z1 := nd_cell G12.out 1 _ rfl
        have z2 := nd_cell G12.out 2 _ rfl
        have z3 := nd_cell G12.out 3 _ rfl
        simp only [List.getElem_toArray, List.getElem_cons_zero, List.getElem_cons_succ] at z0 z1 z2 z3
        clear hAV eV HB1 hk hk2 hk3
        go_wp2_with (first
          | (refine wpList_load_row rfl 34 (.tmp 12) rfl v1.heap.size rfl 34 _ (0, 0) _ G12.out Try.underlying34 rfl (by kernel_rfl) ?_)
          | (go_at_call 15; refine (size_zero _).mono ?_; rintro e x1 ⟨rfl, hb8⟩; have HB8 := Lib.hid hb8; clear hb8))
        go_roundw
        case rel => exact ⟨3 + 1, by omega, by go_num, HV.out.trans (HB8.out.mono HV.out.size)⟩
        case measure => first | (simp [intOf]; done) | (simp [intOf]; omega)
    · go_wp2_with (go_at_call 12; refine (ndputs_any _).mono ?_; rintro e w5 ⟨rfl, hb5⟩)
      go_ret
      exact ⟨rfl, HW2.out.trans ((HBK.out.trans (hb5.mono HBK.out.size)).mono HW2.out.size)⟩
set_option maxRecDepth 100000 in
set_option maxHeartbeats 16000000 in
theorem nodeGets_xor (n : NodeD) (l : NdL) (hn : okNode n) (hf : FitsN n) (w : World) (h : NodeAt w n l) (a b : Int) (h4 : Hid (b.tmod 5 ≠ 4)) (B : Option Addr) (cap1 : Nat) (ys : List UInt8) (hy : BytesAt w B ys) (hlc : ys.length ≤ cap1) (hcm : cap1 ≤ maxLen) :
    Calls Try.prog 4 #[.agg #[.bool n.leaf, .slice l.EA n.es.length l.ec, .slice l.KA n.ks.length l.kc, .slice l.DA n.ds.length l.dc], .agg #[.int .i64 a, .int .i64 b], .slice B ys.length cap1] w fun e w' => e = .returned (.bool true) ∧ Below w.heap.size w w' := by
  obtain ⟨W, eW⟩ : ∃ W, W = (w.alloc (.cells #[.bool n.leaf, .slice l.EA n.es.length l.ec, .slice l.KA n.ks.length l.kc, .slice l.DA n.ds.length l.dc] 26)).alloc (.cells #[.int .i64 a, .int .i64 b] 54) := ⟨_, rfl⟩
  have hbW : Below w.heap.size w W := by rw [eW]; exact ((Below.refl _ _).alloc (Nat.le_refl _) _).alloc (by simp) _
  have hg0 : W.heap[w.heap.size]? = some (.cells #[.bool n.leaf, .slice l.EA n.es.length l.ec, .slice l.KA n.ks.length l.kc, .slice l.DA n.ds.length l.dc] 26 (0, 0)) := by rw [eW]; exact heap_alloc2_old _ _ _
  have hg1 : W.heap[w.heap.size + 1]? = some (.cells #[.int .i64 a, .int .i64 b] 54 (0, 0)) := by rw [eW]; exact heap_alloc2_new _ _ _
  have HG := Lib.hid hg0
  have HG1 := Lib.hid hg1
  have HN := Lib.hid (h.below hbW)
  have HY := Lib.hid (hy.below hbW)
  have HBW := Lib.hid hbW
  have HNO := Lib.hid hn
  have HLC := Lib.hid hlc
  have HCM := Lib.hid hcm
  obtain ⟨m, hm⟩ : ∃ m, m = min ys.length 250 := ⟨_, rfl⟩
  have hm1 : m ≤ ys.length := by omega
  have hm2 : m ≤ 250 := by omega
  have HM : Hid (min (ys.length : Int) 250 = (m : Int)) := Lib.hid (by omega)
  have HMC : Hid (m ≤ cap1) := Lib.hid (by omega)
  have HM1 := Lib.hid hm1
  have HM2 := Lib.hid hm2
  clear hbW hg0 hg1 hn h hy hlc hcm hm hm1 hm2
  go_enter Try.func4, Try.ntmps4
  go_upto_region 1 with fail
  rw [← eW]
  clear eW

  obtain ⟨XS, hXS⟩ : ∃ XS, nodeB n = XS := ⟨_, rfl⟩
  obtain ⟨L, hL⟩ : ∃ L, L = XS.length := ⟨_, rfl⟩
  obtain ⟨hL1, hL2⟩ : 1 ≤ L ∧ L ≤ 600 := by rw [hL, ← hXS]; exact nodeB_bounds HNO.out
  obtain ⟨K0, hk, hke⟩ := modI a L (by omega) (by omega)
  have HXS := Lib.hid hXS
  have HL := Lib.hid hL
  have HL0 : Hid (L = (nodeB n).length) := Lib.hid (by rw [hXS]; exact hL)
  have HL1 := Lib.hid hL1
  have HL2 := Lib.hid hL2
  have HK := Lib.hid hk
  have HKE := Lib.hid hke
  clear hXS hL hke
  go_upto_region 3 with (first
    | (refine wpList_load_row rfl 26 (.tmp 3) rfl w.heap.size rfl 26 _ (0, 0) _ HG.out Try.underlying26 rfl (by kernel_rfl) ?_)
    | (go_at_call 11; refine (refPut_yes n l HNO.out _ HN.out L HL0.out).mono ?_; rw [HXS.out]; rintro e w1 ⟨A, c, rfl, ho1, hb1⟩; have HB1 := Lib.hid hb1; have HO1 := Lib.hid ho1; clear hb1 ho1))
  obtain ⟨g, hA⟩ : ∃ g, A = some ⟨g, 0, none⟩ := by
    rcases HO1.out.cases with ⟨h1, h2⟩ | ⟨g, cap, h1, _⟩
    · exfalso
      have := HL.out
      rw [h2] at this
      simp at this
      omega
    · injection h1 with h1 _ _
      exact ⟨g, h1⟩
  subst hA
  have HGW1 := Lib.hid (row_stays HG1.out HB1.out)
  have a0 := nd_cell HGW1.out 0 _ rfl
  have a1 := nd_cell HGW1.out 1 _ rfl
  simp only [List.getElem_toArray, List.getElem_cons_zero, List.getElem_cons_succ] at a0 a1
  have u0 : IntKind.u64.wrap (L : Int) = (L : Int) := by rw [IntKind.wrap_u64]; omega
  have u1 : (L : Int) ≠ 0 := by omega
  go_upto_region 4 with fail
  rw [HKE.out]
  clear u0 u1
  have q1 : (b.tmod 5 == 4) = false := by have := h4.out; simpa using this
  have q2 : (wrap64 (b.tmod 5) == 4) = false := by rw [show wrap64 (b.tmod 5) = b.tmod 5 from by unfold wrap64; have := Int.tmod_lt_of_pos b (show (0 : Int) < 5 by decide); have := Int.lt_tmod_of_pos b (show (0 : Int) < 5 by decide); omega]; exact q1
  go_upto_region 6 with fail
  obtain ⟨x, hx⟩ : ∃ x, x = XS.getD K0 0 := ⟨_, rfl⟩
  have hkX : K0 < XS.length := by have := HL.out; have := HK.out; omega
  have hb1 : w.heap.size + 1 < w1.heap.size := by have := (Array.getElem?_eq_some_iff.1 HGW1.out).1; exact this
  have hgb := (HO1.out.block _ rfl)
  obtain ⟨o1, o2⟩ := OwnS.cellAtN HO1.out K0 hkX
  rw [← hx] at o1
  have k0 : ∀ y : SubW w1.heap.size w1, y.at_.cell? ⟨g, K0, none⟩ = some (.int .u8 (x.toNat : Int)) := fun y => (World.cell?_of_block (a := ⟨g, K0, none⟩) (y.ok_.block _ hgb.2)).trans o1
  have k1 : ∀ y : SubW w1.heap.size w1, y.at_.cell? ⟨w.heap.size + 1, 1, none⟩ = some (.int .i64 b) := fun y => (World.cell?_of_block (a := ⟨w.heap.size + 1, 1, none⟩) (y.ok_.block _ hb1)).trans a1
  obtain ⟨x', hx'⟩ := xor_byte x b
  rw [IntKind.wrap_u8] at hx'
  have HX' := Lib.hid hx'
  clear hx hx' o1 o2 q1 q2 a0 a1 hb1
  refine region_below_tail 9 w1.heap.size w1 (Below.refl _ _) (by kernel_rfl) (by kernel_rfl) ?_
  simp only [List.take_succ_cons, List.take_zero, List.drop_succ_cons, List.drop_zero]
  repeat (go_big_quiet_step (fail))
  refine wpQuiet_nil ?_
  rintro w' ⟨y, rfl⟩
  have HOY := Lib.hid (HO1.out.below y.ok_)
  obtain ⟨oc2, of2⟩ := OwnS.cellAtN HOY.out K0 hkX
  clear k0 k1
  go_upto_region 7 with fail
  clear oc2 of2
  rw [HX'.out]
  obtain ⟨w2, ew2⟩ : ∃ w2, w2 = y.at_.setCell ⟨g, K0, none⟩ (.int .u8 (x'.toNat : Int)) := ⟨_, rfl⟩
  rw [← ew2]
  have HO2 := Lib.hid (OwnS.storedN HOY.out K0 hkX x')
  rw [← ew2] at HO2
  have HB2 : Hid (Below W.heap.size W w2) := Lib.hid (by rw [ew2]; exact Below.setCell (p := ⟨g, K0, none⟩) (HB1.out.trans (y.ok_.mono HB1.out.size)) hgb.1 _)
  have HX : Hid (BytesAt w2 (some ⟨g, 0, none⟩) (XS.set K0 x')) := Lib.hid HO2.out.bytes
  have HXL : Hid ((XS.set K0 x').length = L) := Lib.hid (by rw [List.length_set]; exact HL.out.symm)
  have HXC : Hid (L ≤ c ∧ c ≤ maxLen ∧ L ≤ 600) := Lib.hid ⟨HO1.out.caps.2.1, HO1.out.caps.2.2.1, HL2.out⟩
  clear ew2 HOY HB1 hgb hkX HGW1 HO1 HO2 hk hL1 hL2
  have HY2 := Lib.hid (HY.out.below HB2.out)
  have HW2 : Hid (Below w.heap.size w w2) := Lib.hid (HBW.out.trans (HB2.out.mono HBW.out.size))
  clear HY HN HG HG1 HB2 HBW
  go_upto_region 8 with fail
  go_loopw [10] (fun i wr => ∃ k : Nat, k ≤ 4 ∧ i = .int .i64 k ∧ Below w2.heap.size w2 wr) (fun i _ => 4 - (intOf i).toNat)
  case atStart => exact ⟨0, by omega, rfl, Below.refl _ _⟩
  case round =>
    obtain ⟨k, hk, rfl, hbk⟩ := hrel
    have HBK := Lib.hid hbk
    clear hbk
    obtain rfl | rfl | rfl | rfl | rfl : k = 0 ∨ k = 1 ∨ k = 2 ∨ k = 3 ∨ k = 4 := by omega
    · have hk := HM.out
      have hk2 := HMC.out
      have hk3 : 0 ≤ (m : Int) := by omega
      go_upto_region 14 with (first
        | (go_at_call 17; refine (get_all true (some ⟨g, 0, none⟩) c L (XS.set K0 x') _ (HX.out.below HBK.out) HXL.out HXC.out.1 HXC.out.2.1 (by have := HXC.out.2.2; omega)).mono ?_; rintro e v1 ⟨hcase, hb1⟩; have HB1 := Lib.hid hb1; clear hb1; rcases hcase with ⟨N, lN, rfl, hN1, hN2, hN3, hN4⟩ | rfl; have HN1 := Lib.hid hN1; have HN2 := Lib.hid hN2; have HN3 := Lib.hid hN3; have HN4 := Lib.hid hN4; clear hN1 hN2 hN3 hN4)
        | (refine wpList_store_row rfl 34 (.tmp 12) (.tmp 64) rfl v1.heap.size #[.bool N.leaf, .slice lN.EA N.es.length lN.ec, .slice lN.KA N.ks.length lN.kc, .slice lN.DA N.ds.length lN.dc] rfl rfl 34 #[.bool false, .slice none 0 0, .slice none 0 0, .slice none 0 0] (heap_alloc_new _ _) (by kernel_rfl) rfl (by simp [Value.oneCell']) ?_; rw [World.setRow_alloc_new])
        | (refine wpList_store_row rfl 34 (.tmp 12) (.tmp 64) rfl v1.heap.size #[.bool false, .slice none 0 0, .slice none 0 0, .slice none 0 0] rfl rfl 34 #[.bool false, .slice none 0 0, .slice none 0 0, .slice none 0 0] (heap_alloc_new _ _) (by kernel_rfl) rfl (by simp [Value.oneCell']) ?_; rw [World.setRow_alloc_new]))
      · obtain ⟨V, eV⟩ : ∃ V, V = v1.alloc (.cells #[.bool N.leaf, .slice lN.EA N.es.length lN.ec, .slice lN.KA N.ks.length lN.kc, .slice lN.DA N.ds.length lN.dc] 34) := ⟨_, rfl⟩
        rw [← eV]
        have hAV : Below v1.heap.size v1 V := by rw [eV]; exact (Below.refl _ _).alloc (Nat.le_refl _) _
        have HV := Lib.hid (HBK.out.trans ((HB1.out.trans (hAV.mono HB1.out.size)).mono HBK.out.size))
        have G12 : Hid (V.heap[v1.heap.size]? = some (.cells #[.bool N.leaf, .slice lN.EA N.es.length lN.ec, .slice lN.KA N.ks.length lN.kc, .slice lN.DA N.ds.length lN.dc] 34 (0, 0))) := Lib.hid (by rw [eV]; exact heap_alloc_new _ _)
        have HNV := Lib.hid (HN1.out.below hAV)
        have HNF := Lib.hid (fits_ok HN2.out)
        have HTX : Hid (BytesAt V (some ⟨g, 0, none⟩) (XS.set K0 x')) := Lib.hid ((show BytesAt _ (some ⟨g, 0, none⟩) (XS.set K0 x') from HX.out.below HBK.out).below (HB1.out.trans (hAV.mono HB1.out.size)))
        have HXL2 : Hid ((XS.set K0 x').length = L) := Lib.hid HXL.out
        clear hAV eV HB1 HN1 hk hk2 hk3
        go_upto_region 18 with (first
          | (refine wpList_load_row rfl 34 (.tmp 12) rfl v1.heap.size rfl 34 _ (0, 0) _ G12.out Try.underlying34 rfl (by kernel_rfl) ?_)
          | (go_at_call 20; refine (from_any N lN _ HNV.out HNF.out.e HNF.out.k HNF.out.d).mono ?_; rintro e x1 ⟨l8, rfl, hn8, hb8⟩; have HN8 := Lib.hid hn8; have HB8 := Lib.hid hb8; clear hn8 hb8)
          | (go_at_call 11; refine (refPut_yes N l8 HN2.out _ HN8.out L (by rw [HN4.out]; exact HXL2.out.symm)).mono ?_; rw [HN4.out]; rintro e x2 ⟨A5, c5, rfl, ho5, hb9⟩; have HB9 := Lib.hid (HB8.out.trans (hb9.mono HB8.out.size)); clear hb9; have HO5 := Lib.hid ho5; clear ho5))
        have t1 := text_nd (w := x2) A5 L c5 (XS.set K0 x') HXL2.out HO5.out.bytes
        have t2 := text_nd (w := x2) (some ⟨g, 0, none⟩) L c (XS.set K0 x') HXL2.out (HTX.out.below HB9.out)
        have c0 := nd_cell (row_stays G12.out HB9.out) 0 _ rfl
        simp only [List.getElem_toArray, List.getElem_cons_zero, HN3.out] at c0
        go_wp2_with fail
        go_roundw
        case rel => exact ⟨0 + 1, by omega, by go_num, HV.out.trans (HB9.out.mono HV.out.size)⟩
        case measure => first | (simp [intOf]; done) | (simp [intOf]; omega)
      · obtain ⟨V, eV⟩ : ∃ V, V = v1.alloc (.cells #[.bool false, .slice none 0 0, .slice none 0 0, .slice none 0 0] 34) := ⟨_, rfl⟩
        rw [← eV]
        have hAV : Below v1.heap.size v1 V := by rw [eV]; exact (Below.refl _ _).alloc (Nat.le_refl _) _
        have HV := Lib.hid (HBK.out.trans ((HB1.out.trans (hAV.mono HB1.out.size)).mono HBK.out.size))
        have G12 : Hid (V.heap[v1.heap.size]? = some (.cells #[.bool false, .slice none 0 0, .slice none 0 0, .slice none 0 0] 34 (0, 0))) := Lib.hid (by rw [eV]; exact heap_alloc_new _ _)
        have z0 := nd_cell G12.out 0 _ rfl
        have z1 := nd_cell G12.out 1 _ rfl
        have z2 := nd_cell G12.out 2 _ rfl
        have z3 := nd_cell G12.out 3 _ rfl
        simp only [List.getElem_toArray, List.getElem_cons_zero, List.getElem_cons_succ] at z0 z1 z2 z3
        clear hAV eV HB1 hk hk2 hk3
        go_wp2_with (first
          | (refine wpList_load_row rfl 34 (.tmp 12) rfl v1.heap.size rfl 34 _ (0, 0) _ G12.out Try.underlying34 rfl (by kernel_rfl) ?_)
          | (go_at_call 15; refine (size_zero _).mono ?_; rintro e x1 ⟨rfl, hb8⟩; have HB8 := Lib.hid hb8; clear hb8))
        go_roundw
        case rel => exact ⟨0 + 1, by omega, by go_num, HV.out.trans (HB8.out.mono HV.out.size)⟩
        case measure => first | (simp [intOf]; done) | (simp [intOf]; omega)
    · have hk := HM.out
      have hk2 := HMC.out
      have hk3 : 0 ≤ (m : Int) := by omega
      go_upto_region 14 with (first
        | (go_at_call 17; refine (get_all false (some ⟨g, 0, none⟩) c L (XS.set K0 x') _ (HX.out.below HBK.out) HXL.out HXC.out.1 HXC.out.2.1 (by have := HXC.out.2.2; omega)).mono ?_; rintro e v1 ⟨hcase, hb1⟩; have HB1 := Lib.hid hb1; clear hb1; rcases hcase with ⟨N, lN, rfl, hN1, hN2, hN3, hN4⟩ | rfl; have HN1 := Lib.hid hN1; have HN2 := Lib.hid hN2; have HN3 := Lib.hid hN3; have HN4 := Lib.hid hN4; clear hN1 hN2 hN3 hN4)
        | (refine wpList_store_row rfl 34 (.tmp 12) (.tmp 64) rfl v1.heap.size #[.bool N.leaf, .slice lN.EA N.es.length lN.ec, .slice lN.KA N.ks.length lN.kc, .slice lN.DA N.ds.length lN.dc] rfl rfl 34 #[.bool false, .slice none 0 0, .slice none 0 0, .slice none 0 0] (heap_alloc_new _ _) (by kernel_rfl) rfl (by simp [Value.oneCell']) ?_; rw [World.setRow_alloc_new])
        | (refine wpList_store_row rfl 34 (.tmp 12) (.tmp 64) rfl v1.heap.size #[.bool false, .slice none 0 0, .slice none 0 0, .slice none 0 0] rfl rfl 34 #[.bool false, .slice none 0 0, .slice none 0 0, .slice none 0 0] (heap_alloc_new _ _) (by kernel_rfl) rfl (by simp [Value.oneCell']) ?_; rw [World.setRow_alloc_new]))
      · obtain ⟨V, eV⟩ : ∃ V, V = v1.alloc (.cells #[.bool N.leaf, .slice lN.EA N.es.length lN.ec, .slice lN.KA N.ks.length lN.kc, .slice lN.DA N.ds.length lN.dc] 34) := ⟨_, rfl⟩
        rw [← eV]
        have hAV : Below v1.heap.size v1 V := by rw [eV]; exact (Below.refl _ _).alloc (Nat.le_refl _) _
        have HV := Lib.hid (HBK.out.trans ((HB1.out.trans (hAV.mono HB1.out.size)).mono HBK.out.size))
        have G12 : Hid (V.heap[v1.heap.size]? = some (.cells #[.bool N.leaf, .slice lN.EA N.es.length lN.ec, .slice lN.KA N.ks.length lN.kc, .slice lN.DA N.ds.length lN.dc] 34 (0, 0))) := Lib.hid (by rw [eV]; exact heap_alloc_new _ _)
        have HNV := Lib.hid (HN1.out.below hAV)
        have HNF := Lib.hid (fits_ok HN2.out)
        have HTX : Hid (BytesAt V (some ⟨g, 0, none⟩) (XS.set K0 x')) := Lib.hid ((show BytesAt _ (some ⟨g, 0, none⟩) (XS.set K0 x') from HX.out.below HBK.out).below (HB1.out.trans (hAV.mono HB1.out.size)))
        have HXL2 : Hid ((XS.set K0 x').length = L) := Lib.hid HXL.out
        clear hAV eV HB1 HN1 hk hk2 hk3
        go_upto_region 18 with (first
          | (refine wpList_load_row rfl 34 (.tmp 12) rfl v1.heap.size rfl 34 _ (0, 0) _ G12.out Try.underlying34 rfl (by kernel_rfl) ?_)
          | (go_at_call 20; refine (from_any N lN _ HNV.out HNF.out.e HNF.out.k HNF.out.d).mono ?_; rintro e x1 ⟨l8, rfl, hn8, hb8⟩; have HN8 := Lib.hid hn8; have HB8 := Lib.hid hb8; clear hn8 hb8)
          | (go_at_call 11; refine (refPut_yes N l8 HN2.out _ HN8.out L (by rw [HN4.out]; exact HXL2.out.symm)).mono ?_; rw [HN4.out]; rintro e x2 ⟨A5, c5, rfl, ho5, hb9⟩; have HB9 := Lib.hid (HB8.out.trans (hb9.mono HB8.out.size)); clear hb9; have HO5 := Lib.hid ho5; clear ho5))
        have t1 := text_nd (w := x2) A5 L c5 (XS.set K0 x') HXL2.out HO5.out.bytes
        have t2 := text_nd (w := x2) (some ⟨g, 0, none⟩) L c (XS.set K0 x') HXL2.out (HTX.out.below HB9.out)
        have c0 := nd_cell (row_stays G12.out HB9.out) 0 _ rfl
        simp only [List.getElem_toArray, List.getElem_cons_zero, HN3.out] at c0
        go_wp2_with fail
        go_roundw
        case rel => exact ⟨1 + 1, by omega, by go_num, HV.out.trans (HB9.out.mono HV.out.size)⟩
        case measure => first | (simp [intOf]; done) | (simp [intOf]; omega)
      · obtain ⟨V, eV⟩ : ∃ V, V = v1.alloc (.cells #[.bool false, .slice none 0 0, .slice none 0 0, .slice none 0 0] 34) := ⟨_, rfl⟩
        rw [← eV]
        have hAV : Below v1.heap.size v1 V := by rw [eV]; exact (Below.refl _ _).alloc (Nat.le_refl _) _
        have HV := Lib.hid (HBK.out.trans ((HB1.out.trans (hAV.mono HB1.out.size)).mono HBK.out.size))
        have G12 : Hid (V.heap[v1.heap.size]? = some (.cells #[.bool false, .slice none 0 0, .slice none 0 0, .slice none 0 0] 34 (0, 0))) := Lib.hid (by rw [eV]; exact heap_alloc_new _ _)
        have z0 := nd_cell G12.out 0 _ rfl
        have z1 := nd_cell G12.out 1 _ rfl
        have z2 := nd_cell G12.out 2 _ rfl
        have z3 := nd_cell G12.out 3 _ rfl
        simp only [List.getElem_toArray, List.getElem_cons_zero, List.getElem_cons_succ] at z0 z1 z2 z3
        clear hAV eV HB1 hk hk2 hk3
        go_wp2_with (first
          | (refine wpList_load_row rfl 34 (.tmp 12) rfl v1.heap.size rfl 34 _ (0, 0) _ G12.out Try.underlying34 rfl (by kernel_rfl) ?_)
          | (go_at_call 15; refine (size_zero _).mono ?_; rintro e x1 ⟨rfl, hb8⟩; have HB8 := Lib.hid hb8; clear hb8))
        go_roundw
        case rel => exact ⟨1 + 1, by omega, by go_num, HV.out.trans (HB8.out.mono HV.out.size)⟩
        case measure => first | (simp [intOf]; done) | (simp [intOf]; omega)
    · have hk := HM.out
      have hk2 := HMC.out
      have hk3 : 0 ≤ (m : Int) := by omega
      go_upto_region 14 with (first
        | (go_at_call 17; refine (get_all true B cap1 m (ys.take m) _ (bytesAt_take (HY2.out.below HBK.out) m) (by rw [List.length_take]; have := HM1.out; omega) HMC.out HCM.out (by have := HM2.out; omega)).mono ?_; rintro e v1 ⟨hcase, hb1⟩; have HB1 := Lib.hid hb1; clear hb1; rcases hcase with ⟨N, lN, rfl, hN1, hN2, hN3, hN4⟩ | rfl; have HN1 := Lib.hid hN1; have HN2 := Lib.hid hN2; have HN3 := Lib.hid hN3; have HN4 := Lib.hid hN4; clear hN1 hN2 hN3 hN4)
        | (refine wpList_store_row rfl 34 (.tmp 12) (.tmp 64) rfl v1.heap.size #[.bool N.leaf, .slice lN.EA N.es.length lN.ec, .slice lN.KA N.ks.length lN.kc, .slice lN.DA N.ds.length lN.dc] rfl rfl 34 #[.bool false, .slice none 0 0, .slice none 0 0, .slice none 0 0] (heap_alloc_new _ _) (by kernel_rfl) rfl (by simp [Value.oneCell']) ?_; rw [World.setRow_alloc_new])
        | (refine wpList_store_row rfl 34 (.tmp 12) (.tmp 64) rfl v1.heap.size #[.bool false, .slice none 0 0, .slice none 0 0, .slice none 0 0] rfl rfl 34 #[.bool false, .slice none 0 0, .slice none 0 0, .slice none 0 0] (heap_alloc_new _ _) (by kernel_rfl) rfl (by simp [Value.oneCell']) ?_; rw [World.setRow_alloc_new]))
      · obtain ⟨V, eV⟩ : ∃ V, V = v1.alloc (.cells #[.bool N.leaf, .slice lN.EA N.es.length lN.ec, .slice lN.KA N.ks.length lN.kc, .slice lN.DA N.ds.length lN.dc] 34) := ⟨_, rfl⟩
        rw [← eV]
        have hAV : Below v1.heap.size v1 V := by rw [eV]; exact (Below.refl _ _).alloc (Nat.le_refl _) _
        have HV := Lib.hid (HBK.out.trans ((HB1.out.trans (hAV.mono HB1.out.size)).mono HBK.out.size))
        have G12 : Hid (V.heap[v1.heap.size]? = some (.cells #[.bool N.leaf, .slice lN.EA N.es.length lN.ec, .slice lN.KA N.ks.length lN.kc, .slice lN.DA N.ds.length lN.dc] 34 (0, 0))) := Lib.hid (by rw [eV]; exact heap_alloc_new _ _)
        have HNV := Lib.hid (HN1.out.below hAV)
        have HNF := Lib.hid (fits_ok HN2.out)
        have HTX : Hid (BytesAt V B (ys.take m)) := Lib.hid ((show BytesAt _ B (ys.take m) from bytesAt_take (HY2.out.below HBK.out) m).below (HB1.out.trans (hAV.mono HB1.out.size)))
        have HXL2 : Hid ((ys.take m).length = m) := Lib.hid (by rw [List.length_take]; have := HM1.out; omega)
        clear hAV eV HB1 HN1 hk hk2 hk3
        go_upto_region 18 with (first
          | (refine wpList_load_row rfl 34 (.tmp 12) rfl v1.heap.size rfl 34 _ (0, 0) _ G12.out Try.underlying34 rfl (by kernel_rfl) ?_)
          | (go_at_call 20; refine (from_any N lN _ HNV.out HNF.out.e HNF.out.k HNF.out.d).mono ?_; rintro e x1 ⟨l8, rfl, hn8, hb8⟩; have HN8 := Lib.hid hn8; have HB8 := Lib.hid hb8; clear hn8 hb8)
          | (go_at_call 11; refine (refPut_yes N l8 HN2.out _ HN8.out m (by rw [HN4.out]; exact HXL2.out.symm)).mono ?_; rw [HN4.out]; rintro e x2 ⟨A5, c5, rfl, ho5, hb9⟩; have HB9 := Lib.hid (HB8.out.trans (hb9.mono HB8.out.size)); clear hb9; have HO5 := Lib.hid ho5; clear ho5))
        have t1 := text_nd (w := x2) A5 m c5 (ys.take m) HXL2.out HO5.out.bytes
        have t2 := text_nd (w := x2) B m cap1 (ys.take m) HXL2.out (HTX.out.below HB9.out)
        have c0 := nd_cell (row_stays G12.out HB9.out) 0 _ rfl
        simp only [List.getElem_toArray, List.getElem_cons_zero, HN3.out] at c0
        go_wp2_with fail
        go_roundw
        case rel => exact ⟨2 + 1, by omega, by go_num, HV.out.trans (HB9.out.mono HV.out.size)⟩
        case measure => first | (simp [intOf]; done) | (simp [intOf]; omega)
      · obtain ⟨V, eV⟩ : ∃ V, V = v1.alloc (.cells #[.bool false, .slice none 0 0, .slice none 0 0, .slice none 0 0] 34) := ⟨_, rfl⟩
        rw [← eV]
        have hAV : Below v1.heap.size v1 V := by rw [eV]; exact (Below.refl _ _).alloc (Nat.le_refl _) _
        have HV := Lib.hid (HBK.out.trans ((HB1.out.trans (hAV.mono HB1.out.size)).mono HBK.out.size))
        have G12 : Hid (V.heap[v1.heap.size]? = some (.cells #[.bool false, .slice none 0 0, .slice none 0 0, .slice none 0 0] 34 (0, 0))) := Lib.hid (by rw [eV]; exact heap_alloc_new _ _)
        have z0 := nd_cell G12.out 0 _ rfl
        have z1 := nd_cell G12.out 1 _ rfl
        have z2 := nd_cell G12.out 2 _ rfl
        have z3 := nd_cell G12.out 3 _ rfl
        simp only [List.getElem_toArray, List.getElem_cons_zero, List.getElem_cons_succ] at z0 z1 z2 z3
        clear hAV eV HB1 hk hk2 hk3
        go_wp2_with (first
          | (refine wpList_load_row rfl 34 (.tmp 12) rfl v1.heap.size rfl 34 _ (0, 0) _ G12.out Try.underlying34 rfl (by kernel_rfl) ?_)
          | (go_at_call 15; refine (size_zero _).mono ?_; rintro e x1 ⟨rfl, hb8⟩; have HB8 := Lib.hid hb8; clear hb8))
        go_roundw
        case rel => exact ⟨2 + 1, by omega, by go_num, HV.out.trans (HB8.out.mono HV.out.size)⟩
        case measure => first | (simp [intOf]; done) | (simp [intOf]; omega)
    · have hk := HM.out
      have hk2 := HMC.out
      have hk3 : 0 ≤ (m : Int) := by omega
      go_upto_region 14 with (first
        | (go_at_call 17; refine (get_all false B cap1 m (ys.take m) _ (bytesAt_take (HY2.out.below HBK.out) m) (by rw [List.length_take]; have := HM1.out; omega) HMC.out HCM.out (by have := HM2.out; omega)).mono ?_; rintro e v1 ⟨hcase, hb1⟩; have HB1 := Lib.hid hb1; clear hb1; rcases hcase with ⟨N, lN, rfl, hN1, hN2, hN3, hN4⟩ | rfl; have HN1 := Lib.hid hN1; have HN2 := Lib.hid hN2; have HN3 := Lib.hid hN3; have HN4 := Lib.hid hN4; clear hN1 hN2 hN3 hN4)
        | (refine wpList_store_row rfl 34 (.tmp 12) (.tmp 64) rfl v1.heap.size #[.bool N.leaf, .slice lN.EA N.es.length lN.ec, .slice lN.KA N.ks.length lN.kc, .slice lN.DA N.ds.length lN.dc] rfl rfl 34 #[.bool false, .slice none 0 0, .slice none 0 0, .slice none 0 0] (heap_alloc_new _ _) (by kernel_rfl) rfl (by simp [Value.oneCell']) ?_; rw [World.setRow_alloc_new])
        | (refine wpList_store_row rfl 34 (.tmp 12) (.tmp 64) rfl v1.heap.size #[.bool false, .slice none 0 0, .slice none 0 0, .slice none 0 0] rfl rfl 34 #[.bool false, .slice none 0 0, .slice none 0 0, .slice none 0 0] (heap_alloc_new _ _) (by kernel_rfl) rfl (by simp [Value.oneCell']) ?_; rw [World.setRow_alloc_new]))
      · obtain ⟨V, eV⟩ : ∃ V, V = v1.alloc (.cells #[.bool N.leaf, .slice lN.EA N.es.length lN.ec, .slice lN.KA N.ks.length lN.kc, .slice lN.DA N.ds.length lN.dc] 34) := ⟨_, rfl⟩
        rw [← eV]
        have hAV : Below v1.heap.size v1 V := by rw [eV]; exact (Below.refl _ _).alloc (Nat.le_refl _) _
        have HV := Lib.hid (HBK.out.trans ((HB1.out.trans (hAV.mono HB1.out.size)).mono HBK.out.size))
        have G12 : Hid (V.heap[v1.heap.size]? = some (.cells #[.bool N.leaf, .slice lN.EA N.es.length lN.ec, .slice lN.KA N.ks.length lN.kc, .slice lN.DA N.ds.length lN.dc] 34 (0, 0))) := Lib.hid (by rw [eV]; exact heap_alloc_new _ _)
        have HNV := Lib.hid (HN1.out.below hAV)
        have HNF := Lib.hid (fits_ok HN2.out)
        have HTX : Hid (BytesAt V B (ys.take m)) := Lib.hid ((show BytesAt _ B (ys.take m) from bytesAt_take (HY2.out.below HBK.out) m).below (HB1.out.trans (hAV.mono HB1.out.size)))
        have HXL2 : Hid ((ys.take m).length = m) := Lib.hid (by rw [List.length_take]; have := HM1.out; omega)
        clear hAV eV HB1 HN1 hk hk2 hk3
        go_upto_region 18 with (first
          | (refine wpList_load_row rfl 34 (.tmp 12) rfl v1.heap.size rfl 34 _ (0, 0) _ G12.out Try.underlying34 rfl (by kernel_rfl) ?_)
          | (go_at_call 20; refine (from_any N lN _ HNV.out HNF.out.e HNF.out.k HNF.out.d).mono ?_; rintro e x1 ⟨l8, rfl, hn8, hb8⟩; have HN8 := Lib.hid hn8; have HB8 := Lib.hid hb8; clear hn8 hb8)
          | (go_at_call 11; refine (refPut_yes N l8 HN2.out _ HN8.out m (by rw [HN4.out]; exact HXL2.out.symm)).mono ?_; rw [HN4.out]; rintro e x2 ⟨A5, c5, rfl, ho5, hb9⟩; have HB9 := Lib.hid (HB8.out.trans (hb9.mono HB8.out.size)); clear hb9; have HO5 := Lib.hid ho5; clear ho5))
        have t1 := text_nd (w := x2) A5 m c5 (ys.take m) HXL2.out HO5.out.bytes
        have t2 := text_nd (w := x2) B m cap1 (ys.take m) HXL2.out (HTX.out.below HB9.out)
        have c0 := nd_cell (row_stays G12.out HB9.out) 0 _ rfl
        simp only [List.getElem_toArray, List.getElem_cons_zero, HN3.out] at c0
        go_wp2_with fail
        go_roundw
        case rel => exact ⟨3 + 1, by omega, by go_num, HV.out.trans (HB9.out.mono HV.out.size)⟩
        case measure => first | (simp [intOf]; done) | (simp [intOf]; omega)
      · obtain ⟨V, eV⟩ : ∃ V, V = v1.alloc (.cells #[.bool false, .slice none 0 0, .slice none 0 0, .slice none 0 0] 34) := ⟨_, rfl⟩
        rw [← eV]
        have hAV : Below v1.heap.size v1 V := by rw [eV]; exact (Below.refl _ _).alloc (Nat.le_refl _) _
        have HV := Lib.hid (HBK.out.trans ((HB1.out.trans (hAV.mono HB1.out.size)).mono HBK.out.size))
        have G12 : Hid (V.heap[v1.heap.size]? = some (.cells #[.bool false, .slice none 0 0, .slice none 0 0, .slice none 0 0] 34 (0, 0))) := Lib.hid (by rw [eV]; exact heap_alloc_new _ _)
        have z0 := nd_cell G12.out 0 _ rfl
        have z1 := nd_cell G12.out 1 _ rfl
        have z2 := nd_cell G12.out 2 _ rfl
        have z3 := nd_cell G12.out 3 _ rfl
        simp only [List.getElem_toArray, List.getElem_cons_zero, List.getElem_cons_succ] at z0 z1 z2 z3
        clear hAV eV HB1 hk hk2 hk3
        go_wp2_with (first
          | (refine wpList_load_row rfl 34 (.tmp 12) rfl v1.heap.size rfl 34 _ (0, 0) _ G12.out Try.underlying34 rfl (by kernel_rfl) ?_)
          | (go_at_call 15; refine (size_zero _).mono ?_; rintro e x1 ⟨rfl, hb8⟩; have HB8 := Lib.hid hb8; clear hb8))
        go_roundw
        case rel => exact ⟨3 + 1, by omega, by go_num, HV.out.trans (HB8.out.mono HV.out.size)⟩
        case measure => first | (simp [intOf]; done) | (simp [intOf]; omega)
    · go_wp2_with (go_at_call 12; refine (ndputs_any _).mono ?_; rintro e w5 ⟨rfl, hb5⟩)
      go_ret
      exact ⟨rfl, HW2.out.trans ((HBK.out.trans (hb5.mono HBK.out.size)).mono HW2.out.size)⟩
theorem nodeGets_walk (n : NodeD) (l : NdL) (hi : inNode n) (hf : FitsN n) {w : World} (h : NodeAt w n l) (a b : Int) (B : Option Addr) (cap1 : Nat) (ys : List UInt8) (hy : BytesAt w B ys) (hlc : ys.length ≤ cap1) (hcm : cap1 ≤ maxLen) :
    Calls Try.prog 4 #[.agg #[.bool n.leaf, .slice l.EA n.es.length l.ec, .slice l.KA n.ks.length l.kc, .slice l.DA n.ds.length l.dc], .agg #[.int .i64 a, .int .i64 b], .slice B ys.length cap1] w fun e w' => e = .returned (.bool true) ∧ Below w.heap.size w w' := by
  by_cases hn : okNode n
  · by_cases h4 : b.tmod 5 = 4
    · exact nodeGets_cut n l hn hf w h a b (Lib.hid h4) B cap1 ys hy hlc hcm
    · exact nodeGets_xor n l hn hf w h a b (Lib.hid h4) B cap1 ys hy hlc hcm
  · exact nodeGets_no n l hn hf w h a b B cap1 ys hy hlc hcm
set_option maxRecDepth 100000 in
theorem open_pair {H : Type} {enc : TypeId × Value → H} {W : World} {base b0 : Nat} {spare : Nat → Bool} {held : Bool} {r : Reach} {v : Value} {d : DataW H} {p : List MemPlace}
    (hv : Value.okWide Try.prog W r b0 54 v) (h : DataW.Trod enc Try.prog W base spare held 54 v d p) :
    ∃ a b : Int, v = .agg #[.int .i64 a, .int .i64 b] := by
  have hC : Try.prog.cellsOf 54 = 2 := by kernel_rfl
  have hc1 : Try.prog.cellsOf 3 = 1 := by kernel_rfl
  obtain ⟨cs, rfl, hsz⟩ : ∃ cs, v = .agg cs ∧ cs.size = 2 := by
    simp only [Value.okWide, Try.underlying54] at hv
    obtain ⟨cs, h1, h2, _⟩ := hv
    exact ⟨cs, h1, h2.trans hC⟩
  obtain ⟨fuel, hf⟩ := h
  obtain ⟨xs, m, _, _, _, hlx, hx⟩ := DataW.trod_array Try.underlying54 hf
  obtain ⟨l⟩ := cs
  match l, hsz with
  | [c0, c1], _ =>
    have h0 := hx 0 (by omega)
    have h1 := hx 1 (by omega)
    rw [hc1] at h0 h1
    obtain ⟨z0, e0, _⟩ := DataW.trod_int Try.underlying3 (h0.trans (List.getElem?_eq_getElem (by omega)))
    obtain ⟨z1, e1, _⟩ := DataW.trod_int Try.underlying3 (h1.trans (List.getElem?_eq_getElem (by omega)))
    simp [Value.cells] at e0 e1
    subst e0 e1
    exact ⟨z0, z1, rfl⟩
end Go.Proofs.Ytgkddhncfaeidaa
