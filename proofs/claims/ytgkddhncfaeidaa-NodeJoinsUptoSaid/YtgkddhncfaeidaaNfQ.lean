/- The reference's Put of whatever node. -/
import Derived.Test.YtgkddhncfaeidaaNfP
namespace Go.Proofs.Ytgkddhncfaeidaa
open Go.ChangeShapes Go.WideShapes Go.ChangeAt Go.RowKit CrcM PageM
set_option linter.unusedVariables false

theorem wn_u8 (z : Int) : IntKind.u8.wrap z = ((UInt8.ofNat (wn z)).toNat : Int) := by
  have h : (wn z : Int) = IntKind.u64.wrap z := (wn_eq z).symm
  rw [UInt8.toNat_ofNat', IntKind.wrap_u8]
  rw [IntKind.wrap_u64] at h
  omega
theorem bytesAt_two (w : World) (z y : Int) (c d : UInt8) (t : TypeId) (hz : z = (c.toNat : Int)) (hy : y = (d.toNat : Int)) : BytesAt (w.alloc (.cells #[.int .u8 z, .int .u8 y] t)) (some ⟨w.heap.size, 0, none⟩) [c, d] := fun _ =>
  ⟨w.heap.size, 0, rfl, fun k hk => by
    rw [World.cell?_alloc_new]
    match k, hk with
    | 0, _ => rw [hz]; rfl
    | 1, _ => rw [hy]; rfl⟩
theorem be_one (n : Nat) : be n 1 = [UInt8.ofNat n] := by simp [be]

theorem bytes_grownN {w w' : World} {r : Option Nat} {bb : Nat} {xs : List UInt8} (h : BytesAt w (some ⟨bb, 0, none⟩) xs) (hb : bb < w.heap.size) (hr : r ≠ some bb) (hg : w.grownBy w' r) : BytesAt w' (some ⟨bb, 0, none⟩) xs := fun hne => by
  obtain ⟨b, off, hA, hc⟩ := h hne
  injection hA with hA
  injection hA with h1 h2
  subst h1 h2
  exact ⟨bb, 0, rfl, fun k hk => (World.cell?_of_block (a := ⟨bb, 0 + k, none⟩) (hg.block bb hb (fun e => hr e.symm))).trans (hc k hk)⟩

set_option maxRecDepth 100000 in
set_option maxHeartbeats 4000000 in
theorem refPut_no (n : NodeD) (l : NdL) (hn : ¬ okNode n) (w : World) (h : NodeAt w n l) :
    Calls Try.prog 11 #[.agg #[.bool n.leaf, .slice l.EA n.es.length l.ec, .slice l.KA n.ks.length l.kc, .slice l.DA n.ds.length l.dc]] w fun e w' => e = .returned (.tuple #[.slice none 0 0, .bool false]) ∧ Below w.heap.size w w' := by
  have hb0 : Below w.heap.size w (w.alloc (.cells #[.bool n.leaf, .slice l.EA n.es.length l.ec, .slice l.KA n.ks.length l.kc, .slice l.DA n.ds.length l.dc] 26)) := (Below.refl _ _).alloc (Nat.le_refl _) _
  have HR := Lib.hid (refRight_any n l false (IsB.mkF hn) _ (h.below hb0))
  have HB0 := Lib.hid hb0
  clear h hn hb0
  go_enter Try.func11, Try.ntmps11
  go_wp2_with (first
    | (refine wpList_load_row rfl 26 (.tmp 1) rfl w.heap.size rfl 26 _ (0, 0) _ (heap_alloc_new _ _) Try.underlying26 rfl (by kernel_rfl) ?_)
    | (go_at_call 14; refine (HR.out).mono ?_; rintro e w1 ⟨rfl, hb1⟩; have HB1 := Lib.hid hb1; clear hb1))
  go_ret2
  exact ⟨rfl, HB0.out.trans (HB1.out.mono HB0.out.size)⟩

set_option maxRecDepth 100000 in
set_option maxHeartbeats 16000000 in
theorem refPut_yes (n : NodeD) (l : NdL) (hn : okNode n) (w : World) (h : NodeAt w n l) (L : Nat) (hL : L = (nodeB n).length) :
    Calls Try.prog 11 #[.agg #[.bool n.leaf, .slice l.EA n.es.length l.ec, .slice l.KA n.ks.length l.kc, .slice l.DA n.ds.length l.dc]] w fun e w' => ∃ A c, e = .returned (.tuple #[.slice A L c, .bool true]) ∧ OwnS w' w.heap.size (.slice A L c) 5 (nodeB n) ∧ Below w.heap.size w w' := by
  obtain ⟨hs1, hs2, hs3, hs4, hs5⟩ := okNode_sizes hn
  have hr0 : Hid (∀ w', NodeAt w' n l → Calls Try.prog 14 #[.agg #[.bool n.leaf, .slice l.EA n.es.length l.ec, .slice l.KA n.ks.length l.kc, .slice l.DA n.ds.length l.dc]] w' fun e w1 => e = .returned (.bool true) ∧ Below w'.heap.size w' w1) := Lib.hid (fun w' h' => refRight_any n l true (IsB.mkT hn) w' h')
  have hsum : n.size = n.es.length + n.ds.length := by
    have hn' := hn
    unfold okNode at hn'
    unfold NodeD.size
    split at hn'
    · rw [if_pos (by assumption), hn'.2.1]; simp
    · rw [if_neg (by assumption), hn'.1]; simp
  obtain ⟨sz, hsz⟩ : ∃ s, n.size = s := ⟨_, rfl⟩
  rw [hsz] at hsum hs4 hs5
  obtain ⟨b0, hb0⟩ : ∃ b, UInt8.ofNat sz = b := ⟨_, rfl⟩
  have hb0n : b0.toNat = sz := by rw [← hb0, UInt8.toNat_ofNat']; omega
  have hnb : nodeB n = b0 :: (n.es.flatMap enB ++ (n.ks.zip n.ds).flatMap kidB) := by unfold nodeB; rw [hsz, hb0]
  rw [hnb] at hL ⊢
  obtain ⟨lf, es, ks, ds⟩ := n
  obtain ⟨EA, ec, KA, kc, DA, dc⟩ := l
  dsimp only at *
  obtain ⟨ne, hne⟩ : ∃ x, es.length = x := ⟨_, rfl⟩
  obtain ⟨nk, hnk⟩ : ∃ x, ks.length = x := ⟨_, rfl⟩
  obtain ⟨nd, hnd⟩ : ∃ x, ds.length = x := ⟨_, rfl⟩
  rw [hne] at hs1
  rw [hnk, hnd] at hs2
  rw [hnd] at hs3
  have H := Lib.hid h
  rw [hne, hnk, hnd] at hr0 ⊢
  rw [hne, hnd] at hsum
  have HNE := Lib.hid hne
  have HNK := Lib.hid hnk
  have HND := Lib.hid hnd
  have HL := Lib.hid hL
  have HS2 := Lib.hid hs2
  have HB0N := Lib.hid hb0n
  obtain ⟨W, eW⟩ : ∃ W, W = w.alloc (.cells #[.bool lf, .slice EA ne ec, .slice KA nk kc, .slice DA nd dc] 26) := ⟨_, rfl⟩
  have hrow : W.heap[w.heap.size]? = some (.cells #[.bool lf, .slice EA ne ec, .slice KA nk kc, .slice DA nd dc] 26 (0, 0)) := by rw [eW]; exact heap_alloc_new _ _
  have hbel : Below w.heap.size w W := by rw [eW]; exact (Below.refl _ _).alloc (Nat.le_refl _) _
  have EW := Lib.hid eW.symm
  have HB := Lib.hid hbel
  have HROW := Lib.hid hrow
  have hsi : (ne : Int) + (nd : Int) = (sz : Int) := by omega
  have hwu : IntKind.u8.wrap (sz : Int) = (b0.toNat : Int) := by rw [hb0n, IntKind.wrap_u8]; omega
  clear h hne hnk hnd eW hrow hbel hL hsz hb0 hb0n hnb hs2 hn hsum
  go_enter Try.func11, Try.ntmps11
  go_upto_region 1 with fail
  rw [EW.out]
  go_upto_region 3 with (first
    | (refine wpList_load_row rfl 26 (.tmp 1) rfl w.heap.size rfl 26 _ (0, 0) _ HROW.out Try.underlying26 rfl (by kernel_rfl) ?_)
    | (go_at_call 14; refine (hr0.out _ (H.out.below HB.out)).mono ?_; rintro e w1 ⟨rfl, hb1⟩; have HB1 := Lib.hid hb1; have HR1 := Lib.hid ((hb1.block w.heap.size (Array.getElem?_eq_some_iff.1 HROW.out).1).trans HROW.out); clear hb1))
  have r1 := nd_cell HR1.out 1 _ rfl
  have r3 := nd_cell HR1.out 3 _ rfl
  go_upto_region 4 with fail
  clear hsi hwu r1 r3
  have HBW : Hid (Below w.heap.size w w1) := Lib.hid (HB.out.trans (HB1.out.mono HB.out.size))
  obtain ⟨B, hBe⟩ : ∃ B, B = w1.heap.size := ⟨_, rfl⟩
  obtain ⟨W3, eW3⟩ : ∃ W3, W3 = w1.alloc (.cells #[.int .u8 (b0.toNat : Int)] 5) := ⟨_, rfl⟩
  have hown : OwnS W3 B (.slice (some ⟨B, 0, none⟩) 1 1) 5 [b0] := by rw [eW3, hBe]; exact OwnS.new w1 5 [b0] w1.heap.size (Nat.le_refl _) (by simp [maxLen])
  have hb3 : Below B w1 W3 := by rw [eW3]; exact (Below.refl _ _).alloc (by omega) _
  rw [← eW3, ← hBe]
  have HOWN := Lib.hid hown
  have HB3 := Lib.hid hb3
  have HBE := Lib.hid hBe
  have hwB : w.heap.size < B := by rw [hBe]; exact (Array.getElem?_eq_some_iff.1 HR1.out).1
  have HWB := Lib.hid hwB
  clear hown hb3 hBe eW3 hwB
  have HX : Hid (∀ W', Below B w1 W' → W'.heap[w.heap.size]? = some (.cells #[.bool lf, .slice EA ne ec, .slice KA nk kc, .slice DA nd dc] 26 (0, 0))) := Lib.hid (fun W' hb => (hb.block _ HWB.out).trans HR1.out)
  go_upto_region 5 with fail
  go_loopw [4, 5] (fun b i wr => ∃ (k : Nat) (A : Option Addr) (c : Nat), k ≤ ne ∧ i = .int .i64 k ∧ b = .slice A (1 + 30 * k) c ∧ Hid (OwnS wr B (.slice A (1 + 30 * k) c) 5 (b0 :: (es.take k).flatMap enB)) ∧ Hid (Below B w1 wr)) (fun _ i _ => ne - (intOf i).toNat)
  case atStart => exact ⟨0, _, 1, by omega, rfl, rfl, by simpa using HOWN, HB3⟩
  case round =>
    obtain ⟨k, A, c, hk, rfl, rfl, HO, HBR⟩ := hrel
    have k1 := nd_cell (HX.out _ HBR.out) 1 _ rfl
    by_cases hlt : k < ne
    · obtain ⟨e, he⟩ : ∃ e, es[k]? = some e := ⟨_, List.getElem?_eq_getElem (by rw [HNE.out]; exact hlt)⟩
      have hwr : Below w.heap.size w wr := HBW.out.trans (HBR.out.mono (by have := HWB.out; omega))
      obtain ⟨b, off, rfl, hcell⟩ := (H.out.below hwr).e (by intro e; have := HNE.out; dsimp only at e; rw [e] at this; simp at this; omega)
      obtain ⟨c0, c1, c2, c3, c4, c5, c6, c7⟩ := hcell k e he
      have HE := Lib.hid he
      have hBs : B ≤ wr.heap.size := by rw [HBE.out]; exact HBR.out.size
      have HBS := Lib.hid hBs
      clear hcell he hwr hBs
      obtain ⟨ll, hll⟩ : ∃ ll, ll = 1 + 30 * k := ⟨_, rfl⟩
      rw [← hll] at HO ⊢
      have HLL := Lib.hid hll
      clear hll
      obtain ⟨xs, hxs⟩ : ∃ xs, xs = b0 :: (es.take k).flatMap enB := ⟨_, rfl⟩
      rw [← hxs] at HO
      have HXS := Lib.hid hxs
      have hxl : xs.length = ll := by rw [hxs, HLL.out]; simp [flat_len length_enB]; have := HNE.out; omega
      have HXL := Lib.hid hxl
      clear hxs hxl
      go_upto_region 8 with fail
      obtain ⟨W, eW⟩ : ∃ W, W = wr.alloc (.cells #[.int .i64 e.se, .int .i64 e.st, .int .i64 e.en, .int .i64 e.ad, .int .i64 e.le, .int .i64 e.cn, .int .i64 e.co, .int .u32 e.cr] 51) := ⟨_, rfl⟩
      have hrow : W.heap[wr.heap.size]? = some (.cells #[.int .i64 e.se, .int .i64 e.st, .int .i64 e.en, .int .i64 e.ad, .int .i64 e.le, .int .i64 e.cn, .int .i64 e.co, .int .u32 e.cr] 51 (0, 0)) := by rw [eW]; exact heap_alloc_new _ _
      have hbW : Below B w1 W := by rw [eW]; exact HBR.out.alloc HBS.out _
      have HOW : Hid (OwnS W B (.slice A ll c) 5 xs) := Lib.hid (by rw [eW]; exact HO.out.alloc _)
      have hBW : B ≤ W.heap.size := by rw [eW]; simp; have := HBS.out; omega
      have HBWs := Lib.hid hBW
      rw [← eW]
      clear eW c0 c1 c2 c3 c4 c5 c6 c7 k1 HO hBW
      obtain ⟨g, hg⟩ : ∃ g, g = wr.heap.size := ⟨_, rfl⟩
      rw [← hg] at hrow ⊢
      clear hg
      have HROW2 := Lib.hid hrow
      have HBW2 := Lib.hid hbW
      clear hrow hbW
      have W_se : Hid (IntKind.u64.wrap e.se = (wn e.se : Int)) := Lib.hid (wn_eq _)
      have W_st : Hid (IntKind.u64.wrap e.st = (wn e.st : Int)) := Lib.hid (wn_eq _)
      have W_en : Hid (IntKind.u64.wrap e.en = (wn e.en : Int)) := Lib.hid (wn_eq _)
      have W_ad : Hid (IntKind.u64.wrap e.ad = (wn e.ad : Int)) := Lib.hid (wn_eq _)
      have W_le : Hid (IntKind.u64.wrap e.le = (wn e.le : Int)) := Lib.hid (wn_eq _)
      have W_cn : Hid (IntKind.u64.wrap e.cn = (wn e.cn : Int)) := Lib.hid (wn_eq _)
      have W_co : Hid (IntKind.u64.wrap e.co = (wn e.co : Int)) := Lib.hid (wn_eq _)
      have W_cr : Hid (IntKind.u64.wrap e.cr = (wn e.cr : Int)) := Lib.hid (wn_eq _)
      have HLB : Hid (ll ≤ 1000) := Lib.hid (by have := HLL.out; omega)
      obtain ⟨n4, hn4⟩ : ∃ n, n = ll + 4 := ⟨_, rfl⟩
      obtain ⟨n12, hn12⟩ : ∃ n, n = ll + 12 := ⟨_, rfl⟩
      obtain ⟨n20, hn20⟩ : ∃ n, n = ll + 20 := ⟨_, rfl⟩
      obtain ⟨n22, hn22⟩ : ∃ n, n = ll + 22 := ⟨_, rfl⟩
      obtain ⟨n24, hn24⟩ : ∃ n, n = ll + 24 := ⟨_, rfl⟩
      obtain ⟨n26, hn26⟩ : ∃ n, n = ll + 26 := ⟨_, rfl⟩
      obtain ⟨n30, hn30⟩ : ∃ n, n = ll + 30 := ⟨_, rfl⟩
      have LN := Lib.hid (⟨hn4, hn12, hn20, hn22, hn24, hn26, hn30⟩ : n4 = ll + 4 ∧ n12 = ll + 12 ∧ n20 = ll + 20 ∧ n22 = ll + 22 ∧ n24 = ll + 24 ∧ n26 = ll + 26 ∧ n30 = ll + 30)
      clear hn4 hn12 hn20 hn22 hn24 hn26 hn30
      have instN : Nonempty (BoxW B g (.cells #[.int .i64 e.se, .int .i64 e.st, .int .i64 e.en, .int .i64 e.ad, .int .i64 e.le, .int .i64 e.cn, .int .i64 e.co, .int .u32 e.cr] 51 (0, 0)) W) := ⟨⟨W, Below.refl _ _, HROW2.out⟩⟩
      have G0 : ∀ y : BoxW B g (.cells #[.int .i64 e.se, .int .i64 e.st, .int .i64 e.en, .int .i64 e.ad, .int .i64 e.le, .int .i64 e.cn, .int .i64 e.co, .int .u32 e.cr] 51 (0, 0)) W, y.at_.cell? ⟨g, 0, none⟩ = some (.int .i64 e.se) := fun y => nd_cell y.bx_ 0 _ rfl
      have G1 : ∀ y : BoxW B g (.cells #[.int .i64 e.se, .int .i64 e.st, .int .i64 e.en, .int .i64 e.ad, .int .i64 e.le, .int .i64 e.cn, .int .i64 e.co, .int .u32 e.cr] 51 (0, 0)) W, y.at_.cell? ⟨g, 1, none⟩ = some (.int .i64 e.st) := fun y => nd_cell y.bx_ 1 _ rfl
      have G2 : ∀ y : BoxW B g (.cells #[.int .i64 e.se, .int .i64 e.st, .int .i64 e.en, .int .i64 e.ad, .int .i64 e.le, .int .i64 e.cn, .int .i64 e.co, .int .u32 e.cr] 51 (0, 0)) W, y.at_.cell? ⟨g, 2, none⟩ = some (.int .i64 e.en) := fun y => nd_cell y.bx_ 2 _ rfl
      refine region_box4 B HBWs.out g _ HROW2.out (.one [0, 1, 2, 3, 4, 7, 8, 9, 10, 13, 14, 15] 5 (.one [] 6 (.one [] 11 (.one [] 12 (.one [] 16 (.one [] 17 (.done [18]))))))) (by kernel_rfl) (by kernel_rfl) ?_
      rintro wd hbd
      have HBd : Hid (Below B W wd) := Lib.hid (hbd.mono HBWs.out)
      have HOd : Hid (OwnS wd B (.slice A ll c) 5 xs) := Lib.hid (HOW.out.below hbd)
      have HRd : Hid (wd.heap[g]? = some (.cells #[.int .i64 e.se, .int .i64 e.st, .int .i64 e.en, .int .i64 e.ad, .int .i64 e.le, .int .i64 e.cn, .int .i64 e.co, .int .u32 e.cr] 51 (0, 0))) := Lib.hid ((hbd.block _ (Array.getElem?_eq_some_iff.1 HROW2.out).1).trans HROW2.out)
      clear hbd
      rw [wpWays_one4]
      try simp only [List.map_cons, List.map_nil, opAt, List.getElem?_toArray, List.getElem?_cons_zero, List.getElem?_cons_succ, Option.getD_some]
      repeat (go_big_quiet_step (fail))
      refine wpQuiet_nil ?_
      clear G0 G1 G2
      go_wp2_with (go_at_call 37; rw [W_se.out]; refine (big_any 4 4 rfl (by omega) _ (wn_lt _) _).mono ?_; rintro e' w11 ⟨D11, d11, rfl, ho11, hb11⟩; have DO11 := Lib.hid ho11; have HO11 := Lib.hid (HOd.out.below hb11); have HB11 := Lib.hid (HBd.out.trans (hb11.mono (Nat.le_trans HBWs.out HBd.out.size))); have HR11 := Lib.hid ((hb11.block _ (Array.getElem?_eq_some_iff.1 HRd.out).1).trans HRd.out); clear ho11 hb11)
      refine ⟨⟨⟨_, HB11.out, HR11.out⟩, rfl⟩, ?_⟩
      try simp only [Act.put, List.setIfInBounds_toArray, List.set_cons_zero, List.set_cons_succ]
      rw [wpWays_one4]
      try simp only [List.map_nil, opAt, List.getElem?_toArray, List.getElem?_cons_zero, List.getElem?_cons_succ, Option.getD_some]
      refine wpQuiet_nil ?_
      go_wp2_with (at_builtin; refine wpList_append_z rfl (.tmp 32) (.tmp 37) 27 rfl Try.underlying27 infoB rfl HO11.out D11 d11 4 (be (wn e.se) 4) (xs ++ be (wn e.se) 4) rfl (by simp [length_be]) DO11.out.bytes rfl (by rw [HXL.out]; have := HLB.out; have := LN.out; omega) (Nat.le_trans HBWs.out HB11.out.size) ?_; intro A12 c12 w12 ho12 hg12)
      have HXL12 : (xs ++ be (wn e.se) 4).length = n4 := by rw [List.length_append, HXL.out, LN.out.1]; simp [length_be]; try (have := LN.out; omega)
      rw [HXL12] at ho12 ⊢
      have HXH12 := Lib.hid HXL12
      clear HXL12
      have HO12 := Lib.hid ho12
      have HB12 := Lib.hid (HO11.out.belowGrown (Nat.le_refl _) (Nat.le_trans HBWs.out HB11.out.size) HB11.out hg12)
      have HR12 := Lib.hid (BoxKept.of_grown HO11.out hg12 _ _ 51 (by decide) HR11.out)
      clear ho12 hg12
      clear DO11
      refine ⟨⟨⟨_, HB12.out, HR12.out⟩, rfl⟩, ?_⟩
      try simp only [Act.put, List.setIfInBounds_toArray, List.set_cons_zero, List.set_cons_succ]
      rw [wpWays_one4]
      try simp only [List.map_nil, opAt, List.getElem?_toArray, List.getElem?_cons_zero, List.getElem?_cons_succ, Option.getD_some]
      refine wpQuiet_nil ?_
      go_wp2_with (go_at_call 37; rw [W_st.out]; refine (big_any 8 8 rfl (by omega) _ (wn_lt _) _).mono ?_; rintro e' w13 ⟨D13, d13, rfl, ho13, hb13⟩; have DO13 := Lib.hid ho13; have HO13 := Lib.hid (HO12.out.below hb13); have HB13 := Lib.hid (HB12.out.trans (hb13.mono (Nat.le_trans HBWs.out HB12.out.size))); have HR13 := Lib.hid ((hb13.block _ (Array.getElem?_eq_some_iff.1 HR12.out).1).trans HR12.out); clear ho13 hb13)
      refine ⟨⟨⟨_, HB13.out, HR13.out⟩, rfl⟩, ?_⟩
      try simp only [Act.put, List.setIfInBounds_toArray, List.set_cons_zero, List.set_cons_succ]
      rw [wpWays_one4]
      try simp only [List.map_nil, opAt, List.getElem?_toArray, List.getElem?_cons_zero, List.getElem?_cons_succ, Option.getD_some]
      refine wpQuiet_nil ?_
      go_wp2_with (at_builtin; refine wpList_append_z rfl (.tmp 38) (.tmp 43) 27 rfl Try.underlying27 infoB rfl HO13.out D13 d13 8 (be (wn e.st) 8) ((xs ++ be (wn e.se) 4) ++ be (wn e.st) 8) rfl (by simp [length_be]) DO13.out.bytes rfl (by rw [HXH12.out]; have := HLB.out; have := LN.out; omega) (Nat.le_trans HBWs.out HB13.out.size) ?_; intro A14 c14 w14 ho14 hg14)
      have HXL14 : ((xs ++ be (wn e.se) 4) ++ be (wn e.st) 8).length = n12 := by rw [List.length_append, HXH12.out, LN.out.2.1]; simp [length_be]; try (have := LN.out; omega)
      rw [HXL14] at ho14 ⊢
      have HXH14 := Lib.hid HXL14
      clear HXL14
      have HO14 := Lib.hid ho14
      have HB14 := Lib.hid (HO13.out.belowGrown (Nat.le_refl _) (Nat.le_trans HBWs.out HB13.out.size) HB13.out hg14)
      have HR14 := Lib.hid (BoxKept.of_grown HO13.out hg14 _ _ 51 (by decide) HR13.out)
      clear ho14 hg14
      clear DO13
      refine ⟨⟨⟨_, HB14.out, HR14.out⟩, rfl⟩, ?_⟩
      try simp only [Act.put, List.setIfInBounds_toArray, List.set_cons_zero, List.set_cons_succ]
      rw [wpWays_one4]
      try simp only [List.map_nil, opAt, List.getElem?_toArray, List.getElem?_cons_zero, List.getElem?_cons_succ, Option.getD_some]
      refine wpQuiet_nil ?_
      go_wp2_with (go_at_call 37; rw [W_en.out]; refine (big_any 8 8 rfl (by omega) _ (wn_lt _) _).mono ?_; rintro e' w15 ⟨D15, d15, rfl, ho15, hb15⟩; have DO15 := Lib.hid ho15; have HO15 := Lib.hid (HO14.out.below hb15); have HB15 := Lib.hid (HB14.out.trans (hb15.mono (Nat.le_trans HBWs.out HB14.out.size))); have HR15 := Lib.hid ((hb15.block _ (Array.getElem?_eq_some_iff.1 HR14.out).1).trans HR14.out); clear ho15 hb15)
      refine ⟨⟨⟨_, HB15.out, HR15.out⟩, rfl⟩, ?_⟩
      try simp only [Act.put, List.setIfInBounds_toArray, List.set_cons_zero, List.set_cons_succ]
      rw [wpWays_one4]
      try simp only [List.map_nil, opAt, List.getElem?_toArray, List.getElem?_cons_zero, List.getElem?_cons_succ, Option.getD_some]
      refine wpQuiet_nil ?_
      go_wp2_with (at_builtin; refine wpList_append_z rfl (.tmp 44) (.tmp 48) 27 rfl Try.underlying27 infoB rfl HO15.out D15 d15 8 (be (wn e.en) 8) (((xs ++ be (wn e.se) 4) ++ be (wn e.st) 8) ++ be (wn e.en) 8) rfl (by simp [length_be]) DO15.out.bytes rfl (by rw [HXH14.out]; have := HLB.out; have := LN.out; omega) (Nat.le_trans HBWs.out HB15.out.size) ?_; intro A16 c16 w16 ho16 hg16)
      have HXL16 : (((xs ++ be (wn e.se) 4) ++ be (wn e.st) 8) ++ be (wn e.en) 8).length = n20 := by rw [List.length_append, HXH14.out, LN.out.2.2.1]; simp [length_be]; try (have := LN.out; omega)
      rw [HXL16] at ho16 ⊢
      have HXH16 := Lib.hid HXL16
      clear HXL16
      have HO16 := Lib.hid ho16
      have HB16 := Lib.hid (HO15.out.belowGrown (Nat.le_refl _) (Nat.le_trans HBWs.out HB15.out.size) HB15.out hg16)
      have HR16 := Lib.hid (BoxKept.of_grown HO15.out hg16 _ _ 51 (by decide) HR15.out)
      clear ho16 hg16
      clear DO15
      refine ⟨⟨⟨_, HB16.out, HR16.out⟩, rfl⟩, ?_⟩
      try simp only [Act.put, List.setIfInBounds_toArray, List.set_cons_zero, List.set_cons_succ]
      rw [wpWays_done4]
      try simp only [List.map_cons, List.map_nil, opAt, List.getElem?_toArray, List.getElem?_cons_zero, List.getElem?_cons_succ, Option.getD_some]
      repeat (go_big_quiet_step (fail))
      refine wpQuiet_nil ?_
      go_upto_region 9 with fail
      have hB8 : B ≤ w16.heap.size := Nat.le_trans HBWs.out HB16.out.size
      have HB8s := Lib.hid hB8
      clear hB8
      have HM8 : Hid (Below B w1 w16) := Lib.hid (HBW2.out.trans HB16.out)
      have instN : Nonempty (BoxW B g (.cells #[.int .i64 e.se, .int .i64 e.st, .int .i64 e.en, .int .i64 e.ad, .int .i64 e.le, .int .i64 e.cn, .int .i64 e.co, .int .u32 e.cr] 51 (0, 0)) w16) := ⟨⟨w16, Below.refl _ _, HR16.out⟩⟩
      have G3 : ∀ y : BoxW B g (.cells #[.int .i64 e.se, .int .i64 e.st, .int .i64 e.en, .int .i64 e.ad, .int .i64 e.le, .int .i64 e.cn, .int .i64 e.co, .int .u32 e.cr] 51 (0, 0)) w16, y.at_.cell? ⟨g, 3, none⟩ = some (.int .i64 e.ad) := fun y => nd_cell y.bx_ 3 _ rfl
      have G4 : ∀ y : BoxW B g (.cells #[.int .i64 e.se, .int .i64 e.st, .int .i64 e.en, .int .i64 e.ad, .int .i64 e.le, .int .i64 e.cn, .int .i64 e.co, .int .u32 e.cr] 51 (0, 0)) w16, y.at_.cell? ⟨g, 4, none⟩ = some (.int .i64 e.le) := fun y => nd_cell y.bx_ 4 _ rfl
      have G5 : ∀ y : BoxW B g (.cells #[.int .i64 e.se, .int .i64 e.st, .int .i64 e.en, .int .i64 e.ad, .int .i64 e.le, .int .i64 e.cn, .int .i64 e.co, .int .u32 e.cr] 51 (0, 0)) w16, y.at_.cell? ⟨g, 5, none⟩ = some (.int .i64 e.cn) := fun y => nd_cell y.bx_ 5 _ rfl
      have G6 : ∀ y : BoxW B g (.cells #[.int .i64 e.se, .int .i64 e.st, .int .i64 e.en, .int .i64 e.ad, .int .i64 e.le, .int .i64 e.cn, .int .i64 e.co, .int .u32 e.cr] 51 (0, 0)) w16, y.at_.cell? ⟨g, 6, none⟩ = some (.int .i64 e.co) := fun y => nd_cell y.bx_ 6 _ rfl
      have V_cn : Hid (e.cn % 256 = ((UInt8.ofNat (wn e.cn)).toNat : Int)) := Lib.hid (by rw [← wn_u8, IntKind.wrap_u8])
      have V_co : Hid (e.co % 256 = ((UInt8.ofNat (wn e.co)).toNat : Int)) := Lib.hid (by rw [← wn_u8, IntKind.wrap_u8])
      refine region_box4 B HB8s.out g _ HR16.out (.two [0, 1, 2, 3, 6, 7, 8, 11, 12, 13, 14, 15, 16] 4 (.two [] 5 (.two [] 9 (.two [] 10 (.one [] 17 (.one [] 18 (.done [19]))) 17 (.one [] 10 (.one [] 18 (.done [19])))) 17 (.one [] 9 (.one [] 10 (.one [] 18 (.done [19]))))) 17 (.one [] 5 (.one [] 9 (.one [] 10 (.one [] 18 (.done [19])))))) 17 (.one [] 4 (.one [] 5 (.one [] 9 (.one [] 10 (.one [] 18 (.done [19]))))))) (by kernel_rfl) (by kernel_rfl) ?_
      rintro wf hbf
      have HBf : Hid (Below B w16 wf) := Lib.hid (hbf.mono HB8s.out)
      have HOf := Lib.hid (HO16.out.below hbf)
      have HRf : Hid (wf.heap[g]? = some (.cells #[.int .i64 e.se, .int .i64 e.st, .int .i64 e.en, .int .i64 e.ad, .int .i64 e.le, .int .i64 e.cn, .int .i64 e.co, .int .u32 e.cr] 51 (0, 0))) := Lib.hid ((hbf.block _ (Array.getElem?_eq_some_iff.1 HR16.out).1).trans HR16.out)
      clear hbf
      rw [wpWays_two4]
      try simp only [List.map_cons, List.map_nil, opAt, List.getElem?_toArray, List.getElem?_cons_zero, List.getElem?_cons_succ, Option.getD_some]
      repeat (go_big_quiet_step (fail))
      clear G3 G4 G5 G6
      refine wpQuiet_nil ⟨?_, ?_⟩
      · skip
        go_wp2_with (go_at_call 37; rw [W_ad.out]; refine (big_any 2 2 rfl (by omega) _ (wn_lt _) _).mono ?_; rintro e' w17 ⟨D17, d17, rfl, ho17, hb17⟩)
        have HD17 := Lib.hid ho17.bytes
        have HO17 := Lib.hid (HOf.out.below hb17)
        have HB17 := Lib.hid (HBf.out.trans (hb17.mono (Nat.le_trans HB8s.out HBf.out.size)))
        have HR17 := Lib.hid ((hb17.block _ (Array.getElem?_eq_some_iff.1 HRf.out).1).trans HRf.out)
        clear ho17 hb17
        refine ⟨⟨⟨_, HB17.out, HR17.out⟩, rfl⟩, ?_⟩
        try simp only [Act.put, List.setIfInBounds_toArray, List.set_cons_zero, List.set_cons_succ]
        rw [wpWays_two4]
        try simp only [List.map_nil, opAt, List.getElem?_toArray, List.getElem?_cons_zero, List.getElem?_cons_succ, Option.getD_some]
        refine wpQuiet_nil ⟨?_, ?_⟩
        · skip
          go_wp2_with (at_builtin; refine wpList_append_z2' rfl (.tmp 50) (.tmp 54) 27 rfl Try.underlying27 infoB rfl HO17.out D17 d17 2 (be (wn e.ad) 2) ((((xs ++ be (wn e.se) 4) ++ be (wn e.st) 8) ++ be (wn e.en) 8) ++ be (wn e.ad) 2) rfl (by simp [length_be]) HD17.out rfl (by rw [HXH16.out]; have := HLB.out; have := LN.out; omega) (Nat.le_trans HB8s.out HB17.out.size) ?_; intro A18 c18 w18 ho18 hg18 how18)
          have HXL18 : ((((xs ++ be (wn e.se) 4) ++ be (wn e.st) 8) ++ be (wn e.en) 8) ++ be (wn e.ad) 2).length = n22 := by rw [List.length_append, HXH16.out, LN.out.2.2.2.1]; simp [length_be]; try (have := LN.out; omega)
          rw [HXL18] at ho18 how18 ⊢
          have HXH18 := Lib.hid HXL18
          have HO18 := Lib.hid ho18
          have HB18 := Lib.hid (HO17.out.belowGrown (Nat.le_refl _) (Nat.le_trans HB8s.out HB17.out.size) HB17.out hg18)
          have HR18 := Lib.hid (BoxKept.of_grown HO17.out hg18 _ _ 51 (by decide) HR17.out)
          clear ho18 hg18 how18 HXL18
          refine ⟨⟨⟨_, HB18.out, HR18.out⟩, rfl⟩, ?_⟩
          try simp only [Act.put, List.setIfInBounds_toArray, List.set_cons_zero, List.set_cons_succ]
          rw [wpWays_two4]
          try simp only [List.map_nil, opAt, List.getElem?_toArray, List.getElem?_cons_zero, List.getElem?_cons_succ, Option.getD_some]
          refine wpQuiet_nil ⟨?_, ?_⟩
          · skip
            go_wp2_with (go_at_call 37; rw [W_le.out]; refine (big_any 2 2 rfl (by omega) _ (wn_lt _) _).mono ?_; rintro e' w19 ⟨D19, d19, rfl, ho19, hb19⟩)
            have HD19 := Lib.hid ho19.bytes
            have HO19 := Lib.hid (HO18.out.below hb19)
            have HB19 := Lib.hid (HB18.out.trans (hb19.mono (Nat.le_trans HB8s.out HB18.out.size)))
            have HR19 := Lib.hid ((hb19.block _ (Array.getElem?_eq_some_iff.1 HR18.out).1).trans HR18.out)
            clear ho19 hb19
            refine ⟨⟨⟨_, HB19.out, HR19.out⟩, rfl⟩, ?_⟩
            try simp only [Act.put, List.setIfInBounds_toArray, List.set_cons_zero, List.set_cons_succ]
            rw [wpWays_two4]
            try simp only [List.map_nil, opAt, List.getElem?_toArray, List.getElem?_cons_zero, List.getElem?_cons_succ, Option.getD_some]
            refine wpQuiet_nil ⟨?_, ?_⟩
            · skip
              go_wp2_with (at_builtin; refine wpList_append_z2' rfl (.tmp 55) (.tmp 59) 27 rfl Try.underlying27 infoB rfl HO19.out D19 d19 2 (be (wn e.le) 2) (((((xs ++ be (wn e.se) 4) ++ be (wn e.st) 8) ++ be (wn e.en) 8) ++ be (wn e.ad) 2) ++ be (wn e.le) 2) rfl (by simp [length_be]) HD19.out rfl (by rw [HXH18.out]; have := HLB.out; have := LN.out; omega) (Nat.le_trans HB8s.out HB19.out.size) ?_; intro A20 c20 w20 ho20 hg20 how20)
              have HXL20 : (((((xs ++ be (wn e.se) 4) ++ be (wn e.st) 8) ++ be (wn e.en) 8) ++ be (wn e.ad) 2) ++ be (wn e.le) 2).length = n24 := by rw [List.length_append, HXH18.out, LN.out.2.2.2.2.1]; simp [length_be]; try (have := LN.out; omega)
              rw [HXL20] at ho20 how20 ⊢
              have HXH20 := Lib.hid HXL20
              have HO20 := Lib.hid ho20
              have HB20 := Lib.hid (HO19.out.belowGrown (Nat.le_refl _) (Nat.le_trans HB8s.out HB19.out.size) HB19.out hg20)
              have HR20 := Lib.hid (BoxKept.of_grown HO19.out hg20 _ _ 51 (by decide) HR19.out)
              clear ho20 hg20 how20 HXL20
              refine ⟨⟨⟨_, HB20.out, HR20.out⟩, rfl⟩, ?_⟩
              try simp only [Act.put, List.setIfInBounds_toArray, List.set_cons_zero, List.set_cons_succ]
              rw [wpWays_one4]
              try simp only [List.map_nil, opAt, List.getElem?_toArray, List.getElem?_cons_zero, List.getElem?_cons_succ, Option.getD_some]
              refine wpQuiet_nil ?_
              go_wp2_with fail
              have HO21 := Lib.hid (HO20.out.alloc (.cells #[.int .u8 (e.cn % 256), .int .u8 (e.co % 256)] 5))
              have hs21 : B ≤ w20.heap.size := Nat.le_trans HB8s.out HB20.out.size
              have HB21 := Lib.hid (HB20.out.alloc hs21 (.cells #[.int .u8 (e.cn % 256), .int .u8 (e.co % 256)] 5))
              have HR21 := Lib.hid ((Below.heap_alloc w20 (.cells #[.int .u8 (e.cn % 256), .int .u8 (e.co % 256)] 5) _ (Array.getElem?_eq_some_iff.1 HR20.out).1).trans HR20.out)
              have HF21 : Hid (BytesAt (w20.alloc (.cells #[.int .u8 (e.cn % 256), .int .u8 (e.co % 256)] 5)) (some ⟨w20.heap.size, 0, none⟩) [UInt8.ofNat (wn e.cn), UInt8.ofNat (wn e.co)] ∧ w20.heap.size < (w20.alloc (.cells #[.int .u8 (e.cn % 256), .int .u8 (e.co % 256)] 5)).heap.size) := Lib.hid ⟨bytesAt_two _ _ _ _ _ _ V_cn.out V_co.out, by simp⟩
              have HN21 : Hid ((Value.slice A20 n24 c20).ownBlock ≠ some w20.heap.size) := Lib.hid (fun h => by have := (HO20.out.block _ h).2; omega)
              obtain ⟨V21, hV21⟩ : ∃ V, V = (w20.alloc (.cells #[.int .u8 (e.cn % 256), .int .u8 (e.co % 256)] 5)) := ⟨_, rfl⟩
              obtain ⟨bb21, hbb21⟩ : ∃ V, V = w20.heap.size := ⟨_, rfl⟩
              rw [← hV21] at HO21 HB21 HR21 HF21 ⊢
              rw [← hbb21] at HF21 HN21 ⊢
              clear hs21 hV21 hbb21
              refine ⟨⟨⟨_, HB21.out, HR21.out⟩, rfl⟩, ?_⟩
              try simp only [Act.put, List.setIfInBounds_toArray, List.set_cons_zero, List.set_cons_succ]
              rw [wpWays_one4]
              try simp only [List.map_nil, opAt, List.getElem?_toArray, List.getElem?_cons_zero, List.getElem?_cons_succ, Option.getD_some]
              refine wpQuiet_nil ?_
              go_wp2_with (at_builtin; refine wpList_append_z2' rfl (.tmp 60) (.tmp 67) 27 rfl Try.underlying27 infoB rfl HO21.out (some ⟨bb21, 0, none⟩) 2 2 ([UInt8.ofNat (wn e.cn), UInt8.ofNat (wn e.co)]) ((((((xs ++ be (wn e.se) 4) ++ be (wn e.st) 8) ++ be (wn e.en) 8) ++ be (wn e.ad) 2) ++ be (wn e.le) 2) ++ [UInt8.ofNat (wn e.cn), UInt8.ofNat (wn e.co)]) rfl (by simp []) HF21.out.1 rfl (by rw [HXH20.out]; have := HLB.out; have := LN.out; omega) (Nat.le_trans HB8s.out HB21.out.size) ?_; intro A22 c22 w22 ho22 hg22 how22)
              have HXL22 : ((((((xs ++ be (wn e.se) 4) ++ be (wn e.st) 8) ++ be (wn e.en) 8) ++ be (wn e.ad) 2) ++ be (wn e.le) 2) ++ [UInt8.ofNat (wn e.cn), UInt8.ofNat (wn e.co)]).length = n26 := by rw [List.length_append, HXH20.out, LN.out.2.2.2.2.2.1]; simp []; try (have := LN.out; omega)
              rw [HXL22] at ho22 how22 ⊢
              have HXH22 := Lib.hid HXL22
              have HO22 := Lib.hid ho22
              have HB22 := Lib.hid (HO21.out.belowGrown (Nat.le_refl _) (Nat.le_trans HB8s.out HB21.out.size) HB21.out hg22)
              have HR22 := Lib.hid (BoxKept.of_grown HO21.out hg22 _ _ 51 (by decide) HR21.out)
              clear ho22 hg22 how22 HXL22
              refine ⟨⟨⟨_, HB22.out, HR22.out⟩, rfl⟩, ?_⟩
              try simp only [Act.put, List.setIfInBounds_toArray, List.set_cons_zero, List.set_cons_succ]
              rw [wpWays_done4]
              try simp only [List.map_cons, List.map_nil, opAt, List.getElem?_toArray, List.getElem?_cons_zero, List.getElem?_cons_succ, Option.getD_some]
              repeat (go_big_quiet_step (fail))
              refine wpQuiet_nil ?_
              clear W_ad W_le V_cn V_co
              have HB1x : Hid (Below B w1 w22) := Lib.hid (HM8.out.trans HB22.out)
              have c7 := nd_cell HR22.out 7 _ rfl
              go_wp2_with (first
                | (go_at_call 37; rw [W_cr.out]; refine (big_any 4 4 rfl (by omega) _ (wn_lt _) _).mono ?_; rintro e' w23 ⟨D23, d23, rfl, ho23, hb23⟩; have HO23 := Lib.hid (HO22.out.below hb23); have HB23 := Lib.hid (HB1x.out.trans (hb23.mono (by have h1 := HB1x.out.size; have h2 := HBE.out; omega))); have HD23 := Lib.hid ho23.bytes; clear ho23 hb23)
                | (at_builtin; refine wpList_append_z rfl (.tmp 69) (.tmp 73) 27 rfl Try.underlying27 infoB rfl HO23.out D23 d23 4 (be (wn e.cr) 4) (((((((xs ++ be (wn e.se) 4) ++ be (wn e.st) 8) ++ be (wn e.en) 8) ++ be (wn e.ad) 2) ++ be (wn e.le) 2) ++ [UInt8.ofNat (wn e.cn), UInt8.ofNat (wn e.co)]) ++ be (wn e.cr) 4) rfl (by simp [length_be]) HD23.out rfl (by rw [HXH22.out]; have := HLB.out; have := LN.out; omega) (by have h1 := HB23.out.size; have h2 := HBE.out; omega) ?_; intro A7 c7' w7 ho7 hg7; have HXL7 : (((((((xs ++ be (wn e.se) 4) ++ be (wn e.st) 8) ++ be (wn e.en) 8) ++ be (wn e.ad) 2) ++ be (wn e.le) 2) ++ [UInt8.ofNat (wn e.cn), UInt8.ofNat (wn e.co)]) ++ be (wn e.cr) 4).length = 1 + 30 * (k + 1) := (by rw [List.length_append, HXH22.out]; simp [length_be]; have := LN.out; have := HLL.out; omega); rw [HXL7] at ho7 ⊢; have HO7 := Lib.hid ho7; have HB7 := Lib.hid (HO23.out.belowGrown (Nat.le_refl _) (by have h1 := HB23.out.size; have h2 := HBE.out; omega) HB23.out hg7); clear ho7 hg7 HXL7))
              go_roundw
              case rel => exact ⟨k + 1, A7, c7', by omega, by go_num, rfl, Lib.hid (by rw [flat_take HE.out]; have h7 := HO7.out; rw [HXS.out] at h7; simpa [enB, kyB, EntD.key, be_one] using h7), HB7⟩
              case measure => first | (simp [intOf]; done) | (simp [intOf]; omega)
            · skip
              go_wp2_with fail
              have HO24 := Lib.hid (HO19.out.alloc (.cells #[.int .u8 (e.cn % 256), .int .u8 (e.co % 256)] 5))
              have hs24 : B ≤ w19.heap.size := Nat.le_trans HB8s.out HB19.out.size
              have HB24 := Lib.hid (HB19.out.alloc hs24 (.cells #[.int .u8 (e.cn % 256), .int .u8 (e.co % 256)] 5))
              have HR24 := Lib.hid ((Below.heap_alloc w19 (.cells #[.int .u8 (e.cn % 256), .int .u8 (e.co % 256)] 5) _ (Array.getElem?_eq_some_iff.1 HR19.out).1).trans HR19.out)
              have HF24 : Hid (BytesAt (w19.alloc (.cells #[.int .u8 (e.cn % 256), .int .u8 (e.co % 256)] 5)) (some ⟨w19.heap.size, 0, none⟩) [UInt8.ofNat (wn e.cn), UInt8.ofNat (wn e.co)] ∧ w19.heap.size < (w19.alloc (.cells #[.int .u8 (e.cn % 256), .int .u8 (e.co % 256)] 5)).heap.size) := Lib.hid ⟨bytesAt_two _ _ _ _ _ _ V_cn.out V_co.out, by simp⟩
              have HN24 : Hid ((Value.slice A18 n22 c18).ownBlock ≠ some w19.heap.size) := Lib.hid (fun h => by have := (HO19.out.block _ h).2; omega)
              have HD24 := Lib.hid (HD19.out.below ((Below.refl _ _).alloc (Nat.le_refl _) (.cells #[.int .u8 (e.cn % 256), .int .u8 (e.co % 256)] 5)))
              obtain ⟨V24, hV24⟩ : ∃ V, V = (w19.alloc (.cells #[.int .u8 (e.cn % 256), .int .u8 (e.co % 256)] 5)) := ⟨_, rfl⟩
              obtain ⟨bb24, hbb24⟩ : ∃ V, V = w19.heap.size := ⟨_, rfl⟩
              rw [← hV24] at HO24 HB24 HR24 HF24 HD24 ⊢
              rw [← hbb24] at HF24 HN24 ⊢
              clear hs24 hV24 hbb24
              refine ⟨⟨⟨_, HB24.out, HR24.out⟩, rfl⟩, ?_⟩
              try simp only [Act.put, List.setIfInBounds_toArray, List.set_cons_zero, List.set_cons_succ]
              rw [wpWays_one4]
              try simp only [List.map_nil, opAt, List.getElem?_toArray, List.getElem?_cons_zero, List.getElem?_cons_succ, Option.getD_some]
              refine wpQuiet_nil ?_
              go_wp2_with (at_builtin; refine wpList_append_z2' rfl (.tmp 55) (.tmp 59) 27 rfl Try.underlying27 infoB rfl HO24.out D19 d19 2 (be (wn e.le) 2) (((((xs ++ be (wn e.se) 4) ++ be (wn e.st) 8) ++ be (wn e.en) 8) ++ be (wn e.ad) 2) ++ be (wn e.le) 2) rfl (by simp [length_be]) HD24.out rfl (by rw [HXH18.out]; have := HLB.out; have := LN.out; omega) (Nat.le_trans HB8s.out HB24.out.size) ?_; intro A25 c25 w25 ho25 hg25 how25)
              have HXL25 : (((((xs ++ be (wn e.se) 4) ++ be (wn e.st) 8) ++ be (wn e.en) 8) ++ be (wn e.ad) 2) ++ be (wn e.le) 2).length = n24 := by rw [List.length_append, HXH18.out, LN.out.2.2.2.2.1]; simp [length_be]; try (have := LN.out; omega)
              rw [HXL25] at ho25 how25 ⊢
              have HXH25 := Lib.hid HXL25
              have HO25 := Lib.hid ho25
              have HB25 := Lib.hid (HO24.out.belowGrown (Nat.le_refl _) (Nat.le_trans HB8s.out HB24.out.size) HB24.out hg25)
              have HR25 := Lib.hid (BoxKept.of_grown HO24.out hg25 _ _ 51 (by decide) HR24.out)
              have HF25 : Hid (BytesAt w25 (some ⟨bb24, 0, none⟩) [UInt8.ofNat (wn e.cn), UInt8.ofNat (wn e.co)] ∧ bb24 < w25.heap.size) := Lib.hid ⟨bytes_grownN HF24.out.1 HF24.out.2 HN24.out hg25, Nat.lt_of_lt_of_le HF24.out.2 hg25.size⟩
              have HN25 : Hid ((Value.slice A25 n24 c25).ownBlock ≠ some bb24) := Lib.hid (by rcases how25 with h | h <;> rw [h]; exact HN24.out; intro hx; injection hx with hx; have := HF24.out.2; omega)
              clear ho25 hg25 how25 HXL25
              refine ⟨⟨⟨_, HB25.out, HR25.out⟩, rfl⟩, ?_⟩
              try simp only [Act.put, List.setIfInBounds_toArray, List.set_cons_zero, List.set_cons_succ]
              rw [wpWays_one4]
              try simp only [List.map_nil, opAt, List.getElem?_toArray, List.getElem?_cons_zero, List.getElem?_cons_succ, Option.getD_some]
              refine wpQuiet_nil ?_
              go_wp2_with (at_builtin; refine wpList_append_z2' rfl (.tmp 60) (.tmp 67) 27 rfl Try.underlying27 infoB rfl HO25.out (some ⟨bb24, 0, none⟩) 2 2 ([UInt8.ofNat (wn e.cn), UInt8.ofNat (wn e.co)]) ((((((xs ++ be (wn e.se) 4) ++ be (wn e.st) 8) ++ be (wn e.en) 8) ++ be (wn e.ad) 2) ++ be (wn e.le) 2) ++ [UInt8.ofNat (wn e.cn), UInt8.ofNat (wn e.co)]) rfl (by simp []) HF25.out.1 rfl (by rw [HXH25.out]; have := HLB.out; have := LN.out; omega) (Nat.le_trans HB8s.out HB25.out.size) ?_; intro A26 c26 w26 ho26 hg26 how26)
              have HXL26 : ((((((xs ++ be (wn e.se) 4) ++ be (wn e.st) 8) ++ be (wn e.en) 8) ++ be (wn e.ad) 2) ++ be (wn e.le) 2) ++ [UInt8.ofNat (wn e.cn), UInt8.ofNat (wn e.co)]).length = n26 := by rw [List.length_append, HXH25.out, LN.out.2.2.2.2.2.1]; simp []; try (have := LN.out; omega)
              rw [HXL26] at ho26 how26 ⊢
              have HXH26 := Lib.hid HXL26
              have HO26 := Lib.hid ho26
              have HB26 := Lib.hid (HO25.out.belowGrown (Nat.le_refl _) (Nat.le_trans HB8s.out HB25.out.size) HB25.out hg26)
              have HR26 := Lib.hid (BoxKept.of_grown HO25.out hg26 _ _ 51 (by decide) HR25.out)
              clear ho26 hg26 how26 HXL26
              refine ⟨⟨⟨_, HB26.out, HR26.out⟩, rfl⟩, ?_⟩
              try simp only [Act.put, List.setIfInBounds_toArray, List.set_cons_zero, List.set_cons_succ]
              rw [wpWays_done4]
              try simp only [List.map_cons, List.map_nil, opAt, List.getElem?_toArray, List.getElem?_cons_zero, List.getElem?_cons_succ, Option.getD_some]
              repeat (go_big_quiet_step (fail))
              refine wpQuiet_nil ?_
              clear W_ad W_le V_cn V_co
              have HB1x : Hid (Below B w1 w26) := Lib.hid (HM8.out.trans HB26.out)
              have c7 := nd_cell HR26.out 7 _ rfl
              go_wp2_with (first
                | (go_at_call 37; rw [W_cr.out]; refine (big_any 4 4 rfl (by omega) _ (wn_lt _) _).mono ?_; rintro e' w27 ⟨D27, d27, rfl, ho27, hb27⟩; have HO27 := Lib.hid (HO26.out.below hb27); have HB27 := Lib.hid (HB1x.out.trans (hb27.mono (by have h1 := HB1x.out.size; have h2 := HBE.out; omega))); have HD27 := Lib.hid ho27.bytes; clear ho27 hb27)
                | (at_builtin; refine wpList_append_z rfl (.tmp 69) (.tmp 73) 27 rfl Try.underlying27 infoB rfl HO27.out D27 d27 4 (be (wn e.cr) 4) (((((((xs ++ be (wn e.se) 4) ++ be (wn e.st) 8) ++ be (wn e.en) 8) ++ be (wn e.ad) 2) ++ be (wn e.le) 2) ++ [UInt8.ofNat (wn e.cn), UInt8.ofNat (wn e.co)]) ++ be (wn e.cr) 4) rfl (by simp [length_be]) HD27.out rfl (by rw [HXH26.out]; have := HLB.out; have := LN.out; omega) (by have h1 := HB27.out.size; have h2 := HBE.out; omega) ?_; intro A7 c7' w7 ho7 hg7; have HXL7 : (((((((xs ++ be (wn e.se) 4) ++ be (wn e.st) 8) ++ be (wn e.en) 8) ++ be (wn e.ad) 2) ++ be (wn e.le) 2) ++ [UInt8.ofNat (wn e.cn), UInt8.ofNat (wn e.co)]) ++ be (wn e.cr) 4).length = 1 + 30 * (k + 1) := (by rw [List.length_append, HXH26.out]; simp [length_be]; have := LN.out; have := HLL.out; omega); rw [HXL7] at ho7 ⊢; have HO7 := Lib.hid ho7; have HB7 := Lib.hid (HO27.out.belowGrown (Nat.le_refl _) (by have h1 := HB27.out.size; have h2 := HBE.out; omega) HB27.out hg7); clear ho7 hg7 HXL7))
              go_roundw
              case rel => exact ⟨k + 1, A7, c7', by omega, by go_num, rfl, Lib.hid (by rw [flat_take HE.out]; have h7 := HO7.out; rw [HXS.out] at h7; simpa [enB, kyB, EntD.key, be_one] using h7), HB7⟩
              case measure => first | (simp [intOf]; done) | (simp [intOf]; omega)
          · skip
            go_wp2_with fail
            have HO28 := Lib.hid (HO18.out.alloc (.cells #[.int .u8 (e.cn % 256), .int .u8 (e.co % 256)] 5))
            have hs28 : B ≤ w18.heap.size := Nat.le_trans HB8s.out HB18.out.size
            have HB28 := Lib.hid (HB18.out.alloc hs28 (.cells #[.int .u8 (e.cn % 256), .int .u8 (e.co % 256)] 5))
            have HR28 := Lib.hid ((Below.heap_alloc w18 (.cells #[.int .u8 (e.cn % 256), .int .u8 (e.co % 256)] 5) _ (Array.getElem?_eq_some_iff.1 HR18.out).1).trans HR18.out)
            have HF28 : Hid (BytesAt (w18.alloc (.cells #[.int .u8 (e.cn % 256), .int .u8 (e.co % 256)] 5)) (some ⟨w18.heap.size, 0, none⟩) [UInt8.ofNat (wn e.cn), UInt8.ofNat (wn e.co)] ∧ w18.heap.size < (w18.alloc (.cells #[.int .u8 (e.cn % 256), .int .u8 (e.co % 256)] 5)).heap.size) := Lib.hid ⟨bytesAt_two _ _ _ _ _ _ V_cn.out V_co.out, by simp⟩
            have HN28 : Hid ((Value.slice A18 n22 c18).ownBlock ≠ some w18.heap.size) := Lib.hid (fun h => by have := (HO18.out.block _ h).2; omega)
            obtain ⟨V28, hV28⟩ : ∃ V, V = (w18.alloc (.cells #[.int .u8 (e.cn % 256), .int .u8 (e.co % 256)] 5)) := ⟨_, rfl⟩
            obtain ⟨bb28, hbb28⟩ : ∃ V, V = w18.heap.size := ⟨_, rfl⟩
            rw [← hV28] at HO28 HB28 HR28 HF28 ⊢
            rw [← hbb28] at HF28 HN28 ⊢
            clear hs28 hV28 hbb28
            refine ⟨⟨⟨_, HB28.out, HR28.out⟩, rfl⟩, ?_⟩
            try simp only [Act.put, List.setIfInBounds_toArray, List.set_cons_zero, List.set_cons_succ]
            rw [wpWays_one4]
            try simp only [List.map_nil, opAt, List.getElem?_toArray, List.getElem?_cons_zero, List.getElem?_cons_succ, Option.getD_some]
            refine wpQuiet_nil ?_
            go_wp2_with (go_at_call 37; rw [W_le.out]; refine (big_any 2 2 rfl (by omega) _ (wn_lt _) _).mono ?_; rintro e' w29 ⟨D29, d29, rfl, ho29, hb29⟩)
            have HD29 := Lib.hid ho29.bytes
            have HO29 := Lib.hid (HO28.out.below hb29)
            have HB29 := Lib.hid (HB28.out.trans (hb29.mono (Nat.le_trans HB8s.out HB28.out.size)))
            have HR29 := Lib.hid ((hb29.block _ (Array.getElem?_eq_some_iff.1 HR28.out).1).trans HR28.out)
            have HF29 : Hid (BytesAt w29 (some ⟨bb28, 0, none⟩) [UInt8.ofNat (wn e.cn), UInt8.ofNat (wn e.co)] ∧ bb28 < w29.heap.size) := Lib.hid ⟨HF28.out.1.below hb29, Nat.lt_of_lt_of_le HF28.out.2 hb29.size⟩
            clear ho29 hb29
            refine ⟨⟨⟨_, HB29.out, HR29.out⟩, rfl⟩, ?_⟩
            try simp only [Act.put, List.setIfInBounds_toArray, List.set_cons_zero, List.set_cons_succ]
            rw [wpWays_one4]
            try simp only [List.map_nil, opAt, List.getElem?_toArray, List.getElem?_cons_zero, List.getElem?_cons_succ, Option.getD_some]
            refine wpQuiet_nil ?_
            go_wp2_with (at_builtin; refine wpList_append_z2' rfl (.tmp 55) (.tmp 59) 27 rfl Try.underlying27 infoB rfl HO29.out D29 d29 2 (be (wn e.le) 2) (((((xs ++ be (wn e.se) 4) ++ be (wn e.st) 8) ++ be (wn e.en) 8) ++ be (wn e.ad) 2) ++ be (wn e.le) 2) rfl (by simp [length_be]) HD29.out rfl (by rw [HXH18.out]; have := HLB.out; have := LN.out; omega) (Nat.le_trans HB8s.out HB29.out.size) ?_; intro A30 c30 w30 ho30 hg30 how30)
            have HXL30 : (((((xs ++ be (wn e.se) 4) ++ be (wn e.st) 8) ++ be (wn e.en) 8) ++ be (wn e.ad) 2) ++ be (wn e.le) 2).length = n24 := by rw [List.length_append, HXH18.out, LN.out.2.2.2.2.1]; simp [length_be]; try (have := LN.out; omega)
            rw [HXL30] at ho30 how30 ⊢
            have HXH30 := Lib.hid HXL30
            have HO30 := Lib.hid ho30
            have HB30 := Lib.hid (HO29.out.belowGrown (Nat.le_refl _) (Nat.le_trans HB8s.out HB29.out.size) HB29.out hg30)
            have HR30 := Lib.hid (BoxKept.of_grown HO29.out hg30 _ _ 51 (by decide) HR29.out)
            have HF30 : Hid (BytesAt w30 (some ⟨bb28, 0, none⟩) [UInt8.ofNat (wn e.cn), UInt8.ofNat (wn e.co)] ∧ bb28 < w30.heap.size) := Lib.hid ⟨bytes_grownN HF29.out.1 HF29.out.2 HN28.out hg30, Nat.lt_of_lt_of_le HF29.out.2 hg30.size⟩
            have HN30 : Hid ((Value.slice A30 n24 c30).ownBlock ≠ some bb28) := Lib.hid (by rcases how30 with h | h <;> rw [h]; exact HN28.out; intro hx; injection hx with hx; have := HF29.out.2; omega)
            clear ho30 hg30 how30 HXL30
            refine ⟨⟨⟨_, HB30.out, HR30.out⟩, rfl⟩, ?_⟩
            try simp only [Act.put, List.setIfInBounds_toArray, List.set_cons_zero, List.set_cons_succ]
            rw [wpWays_one4]
            try simp only [List.map_nil, opAt, List.getElem?_toArray, List.getElem?_cons_zero, List.getElem?_cons_succ, Option.getD_some]
            refine wpQuiet_nil ?_
            go_wp2_with (at_builtin; refine wpList_append_z2' rfl (.tmp 60) (.tmp 67) 27 rfl Try.underlying27 infoB rfl HO30.out (some ⟨bb28, 0, none⟩) 2 2 ([UInt8.ofNat (wn e.cn), UInt8.ofNat (wn e.co)]) ((((((xs ++ be (wn e.se) 4) ++ be (wn e.st) 8) ++ be (wn e.en) 8) ++ be (wn e.ad) 2) ++ be (wn e.le) 2) ++ [UInt8.ofNat (wn e.cn), UInt8.ofNat (wn e.co)]) rfl (by simp []) HF30.out.1 rfl (by rw [HXH30.out]; have := HLB.out; have := LN.out; omega) (Nat.le_trans HB8s.out HB30.out.size) ?_; intro A31 c31 w31 ho31 hg31 how31)
            have HXL31 : ((((((xs ++ be (wn e.se) 4) ++ be (wn e.st) 8) ++ be (wn e.en) 8) ++ be (wn e.ad) 2) ++ be (wn e.le) 2) ++ [UInt8.ofNat (wn e.cn), UInt8.ofNat (wn e.co)]).length = n26 := by rw [List.length_append, HXH30.out, LN.out.2.2.2.2.2.1]; simp []; try (have := LN.out; omega)
            rw [HXL31] at ho31 how31 ⊢
            have HXH31 := Lib.hid HXL31
            have HO31 := Lib.hid ho31
            have HB31 := Lib.hid (HO30.out.belowGrown (Nat.le_refl _) (Nat.le_trans HB8s.out HB30.out.size) HB30.out hg31)
            have HR31 := Lib.hid (BoxKept.of_grown HO30.out hg31 _ _ 51 (by decide) HR30.out)
            clear ho31 hg31 how31 HXL31
            refine ⟨⟨⟨_, HB31.out, HR31.out⟩, rfl⟩, ?_⟩
            try simp only [Act.put, List.setIfInBounds_toArray, List.set_cons_zero, List.set_cons_succ]
            rw [wpWays_done4]
            try simp only [List.map_cons, List.map_nil, opAt, List.getElem?_toArray, List.getElem?_cons_zero, List.getElem?_cons_succ, Option.getD_some]
            repeat (go_big_quiet_step (fail))
            refine wpQuiet_nil ?_
            clear W_ad W_le V_cn V_co
            have HB1x : Hid (Below B w1 w31) := Lib.hid (HM8.out.trans HB31.out)
            have c7 := nd_cell HR31.out 7 _ rfl
            go_wp2_with (first
              | (go_at_call 37; rw [W_cr.out]; refine (big_any 4 4 rfl (by omega) _ (wn_lt _) _).mono ?_; rintro e' w32 ⟨D32, d32, rfl, ho32, hb32⟩; have HO32 := Lib.hid (HO31.out.below hb32); have HB32 := Lib.hid (HB1x.out.trans (hb32.mono (by have h1 := HB1x.out.size; have h2 := HBE.out; omega))); have HD32 := Lib.hid ho32.bytes; clear ho32 hb32)
              | (at_builtin; refine wpList_append_z rfl (.tmp 69) (.tmp 73) 27 rfl Try.underlying27 infoB rfl HO32.out D32 d32 4 (be (wn e.cr) 4) (((((((xs ++ be (wn e.se) 4) ++ be (wn e.st) 8) ++ be (wn e.en) 8) ++ be (wn e.ad) 2) ++ be (wn e.le) 2) ++ [UInt8.ofNat (wn e.cn), UInt8.ofNat (wn e.co)]) ++ be (wn e.cr) 4) rfl (by simp [length_be]) HD32.out rfl (by rw [HXH31.out]; have := HLB.out; have := LN.out; omega) (by have h1 := HB32.out.size; have h2 := HBE.out; omega) ?_; intro A7 c7' w7 ho7 hg7; have HXL7 : (((((((xs ++ be (wn e.se) 4) ++ be (wn e.st) 8) ++ be (wn e.en) 8) ++ be (wn e.ad) 2) ++ be (wn e.le) 2) ++ [UInt8.ofNat (wn e.cn), UInt8.ofNat (wn e.co)]) ++ be (wn e.cr) 4).length = 1 + 30 * (k + 1) := (by rw [List.length_append, HXH31.out]; simp [length_be]; have := LN.out; have := HLL.out; omega); rw [HXL7] at ho7 ⊢; have HO7 := Lib.hid ho7; have HB7 := Lib.hid (HO32.out.belowGrown (Nat.le_refl _) (by have h1 := HB32.out.size; have h2 := HBE.out; omega) HB32.out hg7); clear ho7 hg7 HXL7))
            go_roundw
            case rel => exact ⟨k + 1, A7, c7', by omega, by go_num, rfl, Lib.hid (by rw [flat_take HE.out]; have h7 := HO7.out; rw [HXS.out] at h7; simpa [enB, kyB, EntD.key, be_one] using h7), HB7⟩
            case measure => first | (simp [intOf]; done) | (simp [intOf]; omega)
        · skip
          go_wp2_with fail
          have HO33 := Lib.hid (HO17.out.alloc (.cells #[.int .u8 (e.cn % 256), .int .u8 (e.co % 256)] 5))
          have hs33 : B ≤ w17.heap.size := Nat.le_trans HB8s.out HB17.out.size
          have HB33 := Lib.hid (HB17.out.alloc hs33 (.cells #[.int .u8 (e.cn % 256), .int .u8 (e.co % 256)] 5))
          have HR33 := Lib.hid ((Below.heap_alloc w17 (.cells #[.int .u8 (e.cn % 256), .int .u8 (e.co % 256)] 5) _ (Array.getElem?_eq_some_iff.1 HR17.out).1).trans HR17.out)
          have HF33 : Hid (BytesAt (w17.alloc (.cells #[.int .u8 (e.cn % 256), .int .u8 (e.co % 256)] 5)) (some ⟨w17.heap.size, 0, none⟩) [UInt8.ofNat (wn e.cn), UInt8.ofNat (wn e.co)] ∧ w17.heap.size < (w17.alloc (.cells #[.int .u8 (e.cn % 256), .int .u8 (e.co % 256)] 5)).heap.size) := Lib.hid ⟨bytesAt_two _ _ _ _ _ _ V_cn.out V_co.out, by simp⟩
          have HN33 : Hid ((Value.slice A16 n20 c16).ownBlock ≠ some w17.heap.size) := Lib.hid (fun h => by have := (HO17.out.block _ h).2; omega)
          have HD33 := Lib.hid (HD17.out.below ((Below.refl _ _).alloc (Nat.le_refl _) (.cells #[.int .u8 (e.cn % 256), .int .u8 (e.co % 256)] 5)))
          obtain ⟨V33, hV33⟩ : ∃ V, V = (w17.alloc (.cells #[.int .u8 (e.cn % 256), .int .u8 (e.co % 256)] 5)) := ⟨_, rfl⟩
          obtain ⟨bb33, hbb33⟩ : ∃ V, V = w17.heap.size := ⟨_, rfl⟩
          rw [← hV33] at HO33 HB33 HR33 HF33 HD33 ⊢
          rw [← hbb33] at HF33 HN33 ⊢
          clear hs33 hV33 hbb33
          refine ⟨⟨⟨_, HB33.out, HR33.out⟩, rfl⟩, ?_⟩
          try simp only [Act.put, List.setIfInBounds_toArray, List.set_cons_zero, List.set_cons_succ]
          rw [wpWays_one4]
          try simp only [List.map_nil, opAt, List.getElem?_toArray, List.getElem?_cons_zero, List.getElem?_cons_succ, Option.getD_some]
          refine wpQuiet_nil ?_
          go_wp2_with (at_builtin; refine wpList_append_z2' rfl (.tmp 50) (.tmp 54) 27 rfl Try.underlying27 infoB rfl HO33.out D17 d17 2 (be (wn e.ad) 2) ((((xs ++ be (wn e.se) 4) ++ be (wn e.st) 8) ++ be (wn e.en) 8) ++ be (wn e.ad) 2) rfl (by simp [length_be]) HD33.out rfl (by rw [HXH16.out]; have := HLB.out; have := LN.out; omega) (Nat.le_trans HB8s.out HB33.out.size) ?_; intro A34 c34 w34 ho34 hg34 how34)
          have HXL34 : ((((xs ++ be (wn e.se) 4) ++ be (wn e.st) 8) ++ be (wn e.en) 8) ++ be (wn e.ad) 2).length = n22 := by rw [List.length_append, HXH16.out, LN.out.2.2.2.1]; simp [length_be]; try (have := LN.out; omega)
          rw [HXL34] at ho34 how34 ⊢
          have HXH34 := Lib.hid HXL34
          have HO34 := Lib.hid ho34
          have HB34 := Lib.hid (HO33.out.belowGrown (Nat.le_refl _) (Nat.le_trans HB8s.out HB33.out.size) HB33.out hg34)
          have HR34 := Lib.hid (BoxKept.of_grown HO33.out hg34 _ _ 51 (by decide) HR33.out)
          have HF34 : Hid (BytesAt w34 (some ⟨bb33, 0, none⟩) [UInt8.ofNat (wn e.cn), UInt8.ofNat (wn e.co)] ∧ bb33 < w34.heap.size) := Lib.hid ⟨bytes_grownN HF33.out.1 HF33.out.2 HN33.out hg34, Nat.lt_of_lt_of_le HF33.out.2 hg34.size⟩
          have HN34 : Hid ((Value.slice A34 n22 c34).ownBlock ≠ some bb33) := Lib.hid (by rcases how34 with h | h <;> rw [h]; exact HN33.out; intro hx; injection hx with hx; have := HF33.out.2; omega)
          clear ho34 hg34 how34 HXL34
          refine ⟨⟨⟨_, HB34.out, HR34.out⟩, rfl⟩, ?_⟩
          try simp only [Act.put, List.setIfInBounds_toArray, List.set_cons_zero, List.set_cons_succ]
          rw [wpWays_one4]
          try simp only [List.map_nil, opAt, List.getElem?_toArray, List.getElem?_cons_zero, List.getElem?_cons_succ, Option.getD_some]
          refine wpQuiet_nil ?_
          go_wp2_with (go_at_call 37; rw [W_le.out]; refine (big_any 2 2 rfl (by omega) _ (wn_lt _) _).mono ?_; rintro e' w35 ⟨D35, d35, rfl, ho35, hb35⟩)
          have HD35 := Lib.hid ho35.bytes
          have HO35 := Lib.hid (HO34.out.below hb35)
          have HB35 := Lib.hid (HB34.out.trans (hb35.mono (Nat.le_trans HB8s.out HB34.out.size)))
          have HR35 := Lib.hid ((hb35.block _ (Array.getElem?_eq_some_iff.1 HR34.out).1).trans HR34.out)
          have HF35 : Hid (BytesAt w35 (some ⟨bb33, 0, none⟩) [UInt8.ofNat (wn e.cn), UInt8.ofNat (wn e.co)] ∧ bb33 < w35.heap.size) := Lib.hid ⟨HF34.out.1.below hb35, Nat.lt_of_lt_of_le HF34.out.2 hb35.size⟩
          clear ho35 hb35
          refine ⟨⟨⟨_, HB35.out, HR35.out⟩, rfl⟩, ?_⟩
          try simp only [Act.put, List.setIfInBounds_toArray, List.set_cons_zero, List.set_cons_succ]
          rw [wpWays_one4]
          try simp only [List.map_nil, opAt, List.getElem?_toArray, List.getElem?_cons_zero, List.getElem?_cons_succ, Option.getD_some]
          refine wpQuiet_nil ?_
          go_wp2_with (at_builtin; refine wpList_append_z2' rfl (.tmp 55) (.tmp 59) 27 rfl Try.underlying27 infoB rfl HO35.out D35 d35 2 (be (wn e.le) 2) (((((xs ++ be (wn e.se) 4) ++ be (wn e.st) 8) ++ be (wn e.en) 8) ++ be (wn e.ad) 2) ++ be (wn e.le) 2) rfl (by simp [length_be]) HD35.out rfl (by rw [HXH34.out]; have := HLB.out; have := LN.out; omega) (Nat.le_trans HB8s.out HB35.out.size) ?_; intro A36 c36 w36 ho36 hg36 how36)
          have HXL36 : (((((xs ++ be (wn e.se) 4) ++ be (wn e.st) 8) ++ be (wn e.en) 8) ++ be (wn e.ad) 2) ++ be (wn e.le) 2).length = n24 := by rw [List.length_append, HXH34.out, LN.out.2.2.2.2.1]; simp [length_be]; try (have := LN.out; omega)
          rw [HXL36] at ho36 how36 ⊢
          have HXH36 := Lib.hid HXL36
          have HO36 := Lib.hid ho36
          have HB36 := Lib.hid (HO35.out.belowGrown (Nat.le_refl _) (Nat.le_trans HB8s.out HB35.out.size) HB35.out hg36)
          have HR36 := Lib.hid (BoxKept.of_grown HO35.out hg36 _ _ 51 (by decide) HR35.out)
          have HF36 : Hid (BytesAt w36 (some ⟨bb33, 0, none⟩) [UInt8.ofNat (wn e.cn), UInt8.ofNat (wn e.co)] ∧ bb33 < w36.heap.size) := Lib.hid ⟨bytes_grownN HF35.out.1 HF35.out.2 HN34.out hg36, Nat.lt_of_lt_of_le HF35.out.2 hg36.size⟩
          have HN36 : Hid ((Value.slice A36 n24 c36).ownBlock ≠ some bb33) := Lib.hid (by rcases how36 with h | h <;> rw [h]; exact HN34.out; intro hx; injection hx with hx; have := HF35.out.2; omega)
          clear ho36 hg36 how36 HXL36
          refine ⟨⟨⟨_, HB36.out, HR36.out⟩, rfl⟩, ?_⟩
          try simp only [Act.put, List.setIfInBounds_toArray, List.set_cons_zero, List.set_cons_succ]
          rw [wpWays_one4]
          try simp only [List.map_nil, opAt, List.getElem?_toArray, List.getElem?_cons_zero, List.getElem?_cons_succ, Option.getD_some]
          refine wpQuiet_nil ?_
          go_wp2_with (at_builtin; refine wpList_append_z2' rfl (.tmp 60) (.tmp 67) 27 rfl Try.underlying27 infoB rfl HO36.out (some ⟨bb33, 0, none⟩) 2 2 ([UInt8.ofNat (wn e.cn), UInt8.ofNat (wn e.co)]) ((((((xs ++ be (wn e.se) 4) ++ be (wn e.st) 8) ++ be (wn e.en) 8) ++ be (wn e.ad) 2) ++ be (wn e.le) 2) ++ [UInt8.ofNat (wn e.cn), UInt8.ofNat (wn e.co)]) rfl (by simp []) HF36.out.1 rfl (by rw [HXH36.out]; have := HLB.out; have := LN.out; omega) (Nat.le_trans HB8s.out HB36.out.size) ?_; intro A37 c37 w37 ho37 hg37 how37)
          have HXL37 : ((((((xs ++ be (wn e.se) 4) ++ be (wn e.st) 8) ++ be (wn e.en) 8) ++ be (wn e.ad) 2) ++ be (wn e.le) 2) ++ [UInt8.ofNat (wn e.cn), UInt8.ofNat (wn e.co)]).length = n26 := by rw [List.length_append, HXH36.out, LN.out.2.2.2.2.2.1]; simp []; try (have := LN.out; omega)
          rw [HXL37] at ho37 how37 ⊢
          have HXH37 := Lib.hid HXL37
          have HO37 := Lib.hid ho37
          have HB37 := Lib.hid (HO36.out.belowGrown (Nat.le_refl _) (Nat.le_trans HB8s.out HB36.out.size) HB36.out hg37)
          have HR37 := Lib.hid (BoxKept.of_grown HO36.out hg37 _ _ 51 (by decide) HR36.out)
          clear ho37 hg37 how37 HXL37
          refine ⟨⟨⟨_, HB37.out, HR37.out⟩, rfl⟩, ?_⟩
          try simp only [Act.put, List.setIfInBounds_toArray, List.set_cons_zero, List.set_cons_succ]
          rw [wpWays_done4]
          try simp only [List.map_cons, List.map_nil, opAt, List.getElem?_toArray, List.getElem?_cons_zero, List.getElem?_cons_succ, Option.getD_some]
          repeat (go_big_quiet_step (fail))
          refine wpQuiet_nil ?_
          clear W_ad W_le V_cn V_co
          have HB1x : Hid (Below B w1 w37) := Lib.hid (HM8.out.trans HB37.out)
          have c7 := nd_cell HR37.out 7 _ rfl
          go_wp2_with (first
            | (go_at_call 37; rw [W_cr.out]; refine (big_any 4 4 rfl (by omega) _ (wn_lt _) _).mono ?_; rintro e' w38 ⟨D38, d38, rfl, ho38, hb38⟩; have HO38 := Lib.hid (HO37.out.below hb38); have HB38 := Lib.hid (HB1x.out.trans (hb38.mono (by have h1 := HB1x.out.size; have h2 := HBE.out; omega))); have HD38 := Lib.hid ho38.bytes; clear ho38 hb38)
            | (at_builtin; refine wpList_append_z rfl (.tmp 69) (.tmp 73) 27 rfl Try.underlying27 infoB rfl HO38.out D38 d38 4 (be (wn e.cr) 4) (((((((xs ++ be (wn e.se) 4) ++ be (wn e.st) 8) ++ be (wn e.en) 8) ++ be (wn e.ad) 2) ++ be (wn e.le) 2) ++ [UInt8.ofNat (wn e.cn), UInt8.ofNat (wn e.co)]) ++ be (wn e.cr) 4) rfl (by simp [length_be]) HD38.out rfl (by rw [HXH37.out]; have := HLB.out; have := LN.out; omega) (by have h1 := HB38.out.size; have h2 := HBE.out; omega) ?_; intro A7 c7' w7 ho7 hg7; have HXL7 : (((((((xs ++ be (wn e.se) 4) ++ be (wn e.st) 8) ++ be (wn e.en) 8) ++ be (wn e.ad) 2) ++ be (wn e.le) 2) ++ [UInt8.ofNat (wn e.cn), UInt8.ofNat (wn e.co)]) ++ be (wn e.cr) 4).length = 1 + 30 * (k + 1) := (by rw [List.length_append, HXH37.out]; simp [length_be]; have := LN.out; have := HLL.out; omega); rw [HXL7] at ho7 ⊢; have HO7 := Lib.hid ho7; have HB7 := Lib.hid (HO38.out.belowGrown (Nat.le_refl _) (by have h1 := HB38.out.size; have h2 := HBE.out; omega) HB38.out hg7); clear ho7 hg7 HXL7))
          go_roundw
          case rel => exact ⟨k + 1, A7, c7', by omega, by go_num, rfl, Lib.hid (by rw [flat_take HE.out]; have h7 := HO7.out; rw [HXS.out] at h7; simpa [enB, kyB, EntD.key, be_one] using h7), HB7⟩
          case measure => first | (simp [intOf]; done) | (simp [intOf]; omega)
      · skip
        go_wp2_with fail
        have HO39 := Lib.hid (HOf.out.alloc (.cells #[.int .u8 (e.cn % 256), .int .u8 (e.co % 256)] 5))
        have hs39 : B ≤ wf.heap.size := Nat.le_trans HB8s.out HBf.out.size
        have HB39 := Lib.hid (HBf.out.alloc hs39 (.cells #[.int .u8 (e.cn % 256), .int .u8 (e.co % 256)] 5))
        have HR39 := Lib.hid ((Below.heap_alloc wf (.cells #[.int .u8 (e.cn % 256), .int .u8 (e.co % 256)] 5) _ (Array.getElem?_eq_some_iff.1 HRf.out).1).trans HRf.out)
        have HF39 : Hid (BytesAt (wf.alloc (.cells #[.int .u8 (e.cn % 256), .int .u8 (e.co % 256)] 5)) (some ⟨wf.heap.size, 0, none⟩) [UInt8.ofNat (wn e.cn), UInt8.ofNat (wn e.co)] ∧ wf.heap.size < (wf.alloc (.cells #[.int .u8 (e.cn % 256), .int .u8 (e.co % 256)] 5)).heap.size) := Lib.hid ⟨bytesAt_two _ _ _ _ _ _ V_cn.out V_co.out, by simp⟩
        have HN39 : Hid ((Value.slice A16 n20 c16).ownBlock ≠ some wf.heap.size) := Lib.hid (fun h => by have := (HOf.out.block _ h).2; omega)
        obtain ⟨V39, hV39⟩ : ∃ V, V = (wf.alloc (.cells #[.int .u8 (e.cn % 256), .int .u8 (e.co % 256)] 5)) := ⟨_, rfl⟩
        obtain ⟨bb39, hbb39⟩ : ∃ V, V = wf.heap.size := ⟨_, rfl⟩
        rw [← hV39] at HO39 HB39 HR39 HF39 ⊢
        rw [← hbb39] at HF39 HN39 ⊢
        clear hs39 hV39 hbb39
        refine ⟨⟨⟨_, HB39.out, HR39.out⟩, rfl⟩, ?_⟩
        try simp only [Act.put, List.setIfInBounds_toArray, List.set_cons_zero, List.set_cons_succ]
        rw [wpWays_one4]
        try simp only [List.map_nil, opAt, List.getElem?_toArray, List.getElem?_cons_zero, List.getElem?_cons_succ, Option.getD_some]
        refine wpQuiet_nil ?_
        go_wp2_with (go_at_call 37; rw [W_ad.out]; refine (big_any 2 2 rfl (by omega) _ (wn_lt _) _).mono ?_; rintro e' w40 ⟨D40, d40, rfl, ho40, hb40⟩)
        have HD40 := Lib.hid ho40.bytes
        have HO40 := Lib.hid (HO39.out.below hb40)
        have HB40 := Lib.hid (HB39.out.trans (hb40.mono (Nat.le_trans HB8s.out HB39.out.size)))
        have HR40 := Lib.hid ((hb40.block _ (Array.getElem?_eq_some_iff.1 HR39.out).1).trans HR39.out)
        have HF40 : Hid (BytesAt w40 (some ⟨bb39, 0, none⟩) [UInt8.ofNat (wn e.cn), UInt8.ofNat (wn e.co)] ∧ bb39 < w40.heap.size) := Lib.hid ⟨HF39.out.1.below hb40, Nat.lt_of_lt_of_le HF39.out.2 hb40.size⟩
        clear ho40 hb40
        refine ⟨⟨⟨_, HB40.out, HR40.out⟩, rfl⟩, ?_⟩
        try simp only [Act.put, List.setIfInBounds_toArray, List.set_cons_zero, List.set_cons_succ]
        rw [wpWays_one4]
        try simp only [List.map_nil, opAt, List.getElem?_toArray, List.getElem?_cons_zero, List.getElem?_cons_succ, Option.getD_some]
        refine wpQuiet_nil ?_
        go_wp2_with (at_builtin; refine wpList_append_z2' rfl (.tmp 50) (.tmp 54) 27 rfl Try.underlying27 infoB rfl HO40.out D40 d40 2 (be (wn e.ad) 2) ((((xs ++ be (wn e.se) 4) ++ be (wn e.st) 8) ++ be (wn e.en) 8) ++ be (wn e.ad) 2) rfl (by simp [length_be]) HD40.out rfl (by rw [HXH16.out]; have := HLB.out; have := LN.out; omega) (Nat.le_trans HB8s.out HB40.out.size) ?_; intro A41 c41 w41 ho41 hg41 how41)
        have HXL41 : ((((xs ++ be (wn e.se) 4) ++ be (wn e.st) 8) ++ be (wn e.en) 8) ++ be (wn e.ad) 2).length = n22 := by rw [List.length_append, HXH16.out, LN.out.2.2.2.1]; simp [length_be]; try (have := LN.out; omega)
        rw [HXL41] at ho41 how41 ⊢
        have HXH41 := Lib.hid HXL41
        have HO41 := Lib.hid ho41
        have HB41 := Lib.hid (HO40.out.belowGrown (Nat.le_refl _) (Nat.le_trans HB8s.out HB40.out.size) HB40.out hg41)
        have HR41 := Lib.hid (BoxKept.of_grown HO40.out hg41 _ _ 51 (by decide) HR40.out)
        have HF41 : Hid (BytesAt w41 (some ⟨bb39, 0, none⟩) [UInt8.ofNat (wn e.cn), UInt8.ofNat (wn e.co)] ∧ bb39 < w41.heap.size) := Lib.hid ⟨bytes_grownN HF40.out.1 HF40.out.2 HN39.out hg41, Nat.lt_of_lt_of_le HF40.out.2 hg41.size⟩
        have HN41 : Hid ((Value.slice A41 n22 c41).ownBlock ≠ some bb39) := Lib.hid (by rcases how41 with h | h <;> rw [h]; exact HN39.out; intro hx; injection hx with hx; have := HF40.out.2; omega)
        clear ho41 hg41 how41 HXL41
        refine ⟨⟨⟨_, HB41.out, HR41.out⟩, rfl⟩, ?_⟩
        try simp only [Act.put, List.setIfInBounds_toArray, List.set_cons_zero, List.set_cons_succ]
        rw [wpWays_one4]
        try simp only [List.map_nil, opAt, List.getElem?_toArray, List.getElem?_cons_zero, List.getElem?_cons_succ, Option.getD_some]
        refine wpQuiet_nil ?_
        go_wp2_with (go_at_call 37; rw [W_le.out]; refine (big_any 2 2 rfl (by omega) _ (wn_lt _) _).mono ?_; rintro e' w42 ⟨D42, d42, rfl, ho42, hb42⟩)
        have HD42 := Lib.hid ho42.bytes
        have HO42 := Lib.hid (HO41.out.below hb42)
        have HB42 := Lib.hid (HB41.out.trans (hb42.mono (Nat.le_trans HB8s.out HB41.out.size)))
        have HR42 := Lib.hid ((hb42.block _ (Array.getElem?_eq_some_iff.1 HR41.out).1).trans HR41.out)
        have HF42 : Hid (BytesAt w42 (some ⟨bb39, 0, none⟩) [UInt8.ofNat (wn e.cn), UInt8.ofNat (wn e.co)] ∧ bb39 < w42.heap.size) := Lib.hid ⟨HF41.out.1.below hb42, Nat.lt_of_lt_of_le HF41.out.2 hb42.size⟩
        clear ho42 hb42
        refine ⟨⟨⟨_, HB42.out, HR42.out⟩, rfl⟩, ?_⟩
        try simp only [Act.put, List.setIfInBounds_toArray, List.set_cons_zero, List.set_cons_succ]
        rw [wpWays_one4]
        try simp only [List.map_nil, opAt, List.getElem?_toArray, List.getElem?_cons_zero, List.getElem?_cons_succ, Option.getD_some]
        refine wpQuiet_nil ?_
        go_wp2_with (at_builtin; refine wpList_append_z2' rfl (.tmp 55) (.tmp 59) 27 rfl Try.underlying27 infoB rfl HO42.out D42 d42 2 (be (wn e.le) 2) (((((xs ++ be (wn e.se) 4) ++ be (wn e.st) 8) ++ be (wn e.en) 8) ++ be (wn e.ad) 2) ++ be (wn e.le) 2) rfl (by simp [length_be]) HD42.out rfl (by rw [HXH41.out]; have := HLB.out; have := LN.out; omega) (Nat.le_trans HB8s.out HB42.out.size) ?_; intro A43 c43 w43 ho43 hg43 how43)
        have HXL43 : (((((xs ++ be (wn e.se) 4) ++ be (wn e.st) 8) ++ be (wn e.en) 8) ++ be (wn e.ad) 2) ++ be (wn e.le) 2).length = n24 := by rw [List.length_append, HXH41.out, LN.out.2.2.2.2.1]; simp [length_be]; try (have := LN.out; omega)
        rw [HXL43] at ho43 how43 ⊢
        have HXH43 := Lib.hid HXL43
        have HO43 := Lib.hid ho43
        have HB43 := Lib.hid (HO42.out.belowGrown (Nat.le_refl _) (Nat.le_trans HB8s.out HB42.out.size) HB42.out hg43)
        have HR43 := Lib.hid (BoxKept.of_grown HO42.out hg43 _ _ 51 (by decide) HR42.out)
        have HF43 : Hid (BytesAt w43 (some ⟨bb39, 0, none⟩) [UInt8.ofNat (wn e.cn), UInt8.ofNat (wn e.co)] ∧ bb39 < w43.heap.size) := Lib.hid ⟨bytes_grownN HF42.out.1 HF42.out.2 HN41.out hg43, Nat.lt_of_lt_of_le HF42.out.2 hg43.size⟩
        have HN43 : Hid ((Value.slice A43 n24 c43).ownBlock ≠ some bb39) := Lib.hid (by rcases how43 with h | h <;> rw [h]; exact HN41.out; intro hx; injection hx with hx; have := HF42.out.2; omega)
        clear ho43 hg43 how43 HXL43
        refine ⟨⟨⟨_, HB43.out, HR43.out⟩, rfl⟩, ?_⟩
        try simp only [Act.put, List.setIfInBounds_toArray, List.set_cons_zero, List.set_cons_succ]
        rw [wpWays_one4]
        try simp only [List.map_nil, opAt, List.getElem?_toArray, List.getElem?_cons_zero, List.getElem?_cons_succ, Option.getD_some]
        refine wpQuiet_nil ?_
        go_wp2_with (at_builtin; refine wpList_append_z2' rfl (.tmp 60) (.tmp 67) 27 rfl Try.underlying27 infoB rfl HO43.out (some ⟨bb39, 0, none⟩) 2 2 ([UInt8.ofNat (wn e.cn), UInt8.ofNat (wn e.co)]) ((((((xs ++ be (wn e.se) 4) ++ be (wn e.st) 8) ++ be (wn e.en) 8) ++ be (wn e.ad) 2) ++ be (wn e.le) 2) ++ [UInt8.ofNat (wn e.cn), UInt8.ofNat (wn e.co)]) rfl (by simp []) HF43.out.1 rfl (by rw [HXH43.out]; have := HLB.out; have := LN.out; omega) (Nat.le_trans HB8s.out HB43.out.size) ?_; intro A44 c44 w44 ho44 hg44 how44)
        have HXL44 : ((((((xs ++ be (wn e.se) 4) ++ be (wn e.st) 8) ++ be (wn e.en) 8) ++ be (wn e.ad) 2) ++ be (wn e.le) 2) ++ [UInt8.ofNat (wn e.cn), UInt8.ofNat (wn e.co)]).length = n26 := by rw [List.length_append, HXH43.out, LN.out.2.2.2.2.2.1]; simp []; try (have := LN.out; omega)
        rw [HXL44] at ho44 how44 ⊢
        have HXH44 := Lib.hid HXL44
        have HO44 := Lib.hid ho44
        have HB44 := Lib.hid (HO43.out.belowGrown (Nat.le_refl _) (Nat.le_trans HB8s.out HB43.out.size) HB43.out hg44)
        have HR44 := Lib.hid (BoxKept.of_grown HO43.out hg44 _ _ 51 (by decide) HR43.out)
        clear ho44 hg44 how44 HXL44
        refine ⟨⟨⟨_, HB44.out, HR44.out⟩, rfl⟩, ?_⟩
        try simp only [Act.put, List.setIfInBounds_toArray, List.set_cons_zero, List.set_cons_succ]
        rw [wpWays_done4]
        try simp only [List.map_cons, List.map_nil, opAt, List.getElem?_toArray, List.getElem?_cons_zero, List.getElem?_cons_succ, Option.getD_some]
        repeat (go_big_quiet_step (fail))
        refine wpQuiet_nil ?_
        clear W_ad W_le V_cn V_co
        have HB1x : Hid (Below B w1 w44) := Lib.hid (HM8.out.trans HB44.out)
        have c7 := nd_cell HR44.out 7 _ rfl
        go_wp2_with (first
          | (go_at_call 37; rw [W_cr.out]; refine (big_any 4 4 rfl (by omega) _ (wn_lt _) _).mono ?_; rintro e' w45 ⟨D45, d45, rfl, ho45, hb45⟩; have HO45 := Lib.hid (HO44.out.below hb45); have HB45 := Lib.hid (HB1x.out.trans (hb45.mono (by have h1 := HB1x.out.size; have h2 := HBE.out; omega))); have HD45 := Lib.hid ho45.bytes; clear ho45 hb45)
          | (at_builtin; refine wpList_append_z rfl (.tmp 69) (.tmp 73) 27 rfl Try.underlying27 infoB rfl HO45.out D45 d45 4 (be (wn e.cr) 4) (((((((xs ++ be (wn e.se) 4) ++ be (wn e.st) 8) ++ be (wn e.en) 8) ++ be (wn e.ad) 2) ++ be (wn e.le) 2) ++ [UInt8.ofNat (wn e.cn), UInt8.ofNat (wn e.co)]) ++ be (wn e.cr) 4) rfl (by simp [length_be]) HD45.out rfl (by rw [HXH44.out]; have := HLB.out; have := LN.out; omega) (by have h1 := HB45.out.size; have h2 := HBE.out; omega) ?_; intro A7 c7' w7 ho7 hg7; have HXL7 : (((((((xs ++ be (wn e.se) 4) ++ be (wn e.st) 8) ++ be (wn e.en) 8) ++ be (wn e.ad) 2) ++ be (wn e.le) 2) ++ [UInt8.ofNat (wn e.cn), UInt8.ofNat (wn e.co)]) ++ be (wn e.cr) 4).length = 1 + 30 * (k + 1) := (by rw [List.length_append, HXH44.out]; simp [length_be]; have := LN.out; have := HLL.out; omega); rw [HXL7] at ho7 ⊢; have HO7 := Lib.hid ho7; have HB7 := Lib.hid (HO45.out.belowGrown (Nat.le_refl _) (by have h1 := HB45.out.size; have h2 := HBE.out; omega) HB45.out hg7); clear ho7 hg7 HXL7))
        go_roundw
        case rel => exact ⟨k + 1, A7, c7', by omega, by go_num, rfl, Lib.hid (by rw [flat_take HE.out]; have h7 := HO7.out; rw [HXS.out] at h7; simpa [enB, kyB, EntD.key, be_one] using h7), HB7⟩
        case measure => first | (simp [intOf]; done) | (simp [intOf]; omega)
    · obtain rfl : k = ne := by omega
      have hL0 : ∃ L0, L0 = 1 + 30 * k := ⟨_, rfl⟩
      obtain ⟨L0, hL0⟩ := hL0
      rw [← hL0] at HO ⊢
      have htk : es.take k = es := List.take_of_length_le (by have := HNE.out; omega)
      rw [htk] at HO
      have HL0 := Lib.hid hL0
      obtain ⟨pre, hpre⟩ : ∃ p, p = b0 :: es.flatMap enB := ⟨_, rfl⟩
      rw [← hpre] at HO
      have HPRE := Lib.hid hpre
      have hplen : pre.length = L0 := by rw [hpre, hL0]; simp [flat_len length_enB]; have := HNE.out; omega
      have HPL := Lib.hid hplen
      obtain ⟨W0, rfl⟩ : ∃ W0, W0 = wr := ⟨_, rfl⟩
      have k3 := nd_cell (HX.out _ HBR.out) 3 _ rfl
      clear hL0 htk hpre hplen
      have hd1 : decide ((k : Int) < (k : Int)) = false := by simp
      go_upto_region 12 with fail
      clear k3 k1
      go_loopw [4, 7] (fun b i wr => ∃ (j : Nat) (A : Option Addr) (c : Nat), j ≤ nd ∧ i = .int .i64 j ∧ b = .slice A (L0 + 14 * j) c ∧ Hid (OwnS wr B (.slice A (L0 + 14 * j) c) 5 (pre ++ ((ks.zip ds).take j).flatMap kidB)) ∧ Hid (Below B w1 wr)) (fun _ i _ => nd - (intOf i).toNat)
      case atStart => exact ⟨0, _, c, by omega, rfl, rfl, by simpa using HO, HBR⟩
      case round =>
        clear HO HBR
        obtain ⟨j, A, c, hj, rfl, rfl, HO, HBR⟩ := hrel
        have k3 := nd_cell (HX.out _ HBR.out) 3 _ rfl
        by_cases hlt2 : j < nd
        · obtain ⟨e, he⟩ : ∃ e, ks[j]? = some e := ⟨_, List.getElem?_eq_getElem (by have := HNK.out; have := HS2.out; omega)⟩
          obtain ⟨z, hz⟩ : ∃ z, ds[j]? = some z := ⟨_, List.getElem?_eq_getElem (by have := HND.out; omega)⟩
          have hzip : (ks.zip ds)[j]? = some (e, z) := by rw [List.getElem?_zip_eq_some]; exact ⟨he, hz⟩
          have hjk : j < nk := by have := HS2.out; omega
          have hwr : Below w.heap.size w wr := HBW.out.trans (HBR.out.mono (by have := HWB.out; omega))
          obtain ⟨bk, ok, rfl, hck⟩ := H.out.k (by intro e'; have h1 := HNK.out; dsimp only at e'; rw [e'] at h1; simp at h1; omega)
          obtain ⟨bd, od, rfl, hcd⟩ := H.out.d (by intro e'; have h1 := HND.out; dsimp only at e'; rw [e'] at h1; simp at h1; omega)
          obtain ⟨c0, c1⟩ := hck j e he
          have c2 := hcd j z hz
          have hl0 := World.block_lt_of_cell? _ _ c0
          have hl2 := World.block_lt_of_cell? _ _ c2
          have hBs : B ≤ wr.heap.size := by rw [HBE.out]; exact HBR.out.size
          have HBS := Lib.hid hBs
          have HZIP := Lib.hid hzip
          have hwB := HWB.out
          have b2 := HX.out _ HBR.out
          have E0 : ∀ y : SubW B wr, y.at_.cell? ⟨bk, ok + j * 2, none⟩ = some (.int .i64 e.se) := fun y => ((hwr.trans (y.ok_.mono (Nat.le_of_lt hwB))).cell (p := ⟨bk, ok + j * 2, none⟩) hl0).trans c0
          have E1 : ∀ y : SubW B wr, y.at_.cell? ⟨bk, ok + j * 2 + 1, none⟩ = some (.int .i64 e.st) := fun y => ((hwr.trans (y.ok_.mono (Nat.le_of_lt hwB))).cell (p := ⟨bk, ok + j * 2 + 1, none⟩) hl0).trans c1
          have E2 : ∀ y : SubW B wr, y.at_.cell? ⟨bd, od + j, none⟩ = some (.int .i64 z) := fun y => ((hwr.trans (y.ok_.mono (Nat.le_of_lt hwB))).cell (p := ⟨bd, od + j, none⟩) hl2).trans c2
          have N2 : ∀ y : SubW B wr, y.at_.cell? ⟨w.heap.size, 2, none⟩ = some (.slice (some ⟨bk, ok, none⟩) nk kc) := fun y => nd_cell ((y.ok_.block _ hwB).trans b2) 2 _ rfl
          have N3 : ∀ y : SubW B wr, y.at_.cell? ⟨w.heap.size, 3, none⟩ = some (.slice (some ⟨bd, od, none⟩) nd dc) := fun y => nd_cell ((y.ok_.block _ hwB).trans b2) 3 _ rfl
          obtain ⟨ll, hll⟩ : ∃ ll, ll = L0 + 14 * j := ⟨_, rfl⟩
          rw [← hll] at HO ⊢
          obtain ⟨xs, hxs⟩ : ∃ xs, xs = pre ++ ((ks.zip ds).take j).flatMap kidB := ⟨_, rfl⟩
          rw [← hxs] at HO
          have hxl : xs.length = ll := by rw [hxs, hll, List.length_append, HPL.out, flat_len length_kidB]; simp; have := HND.out; have := HNK.out; have := HS2.out; omega
          obtain ⟨n4, hn4⟩ : ∃ n, n = ll + 4 := ⟨_, rfl⟩
          obtain ⟨n12, hn12⟩ : ∃ n, n = ll + 12 := ⟨_, rfl⟩
          obtain ⟨n14, hn14⟩ : ∃ n, n = ll + 14 := ⟨_, rfl⟩
          have HLL := Lib.hid hll
          have HXS := Lib.hid hxs
          have HXL := Lib.hid hxl
          have LN := Lib.hid (⟨hn4, hn12, hn14⟩ : n4 = ll + 4 ∧ n12 = ll + 12 ∧ n14 = ll + 14)
          have HLB : Hid (ll ≤ 1000) := Lib.hid (by have := HLL.out; have := HL0.out; omega)
          have W_se : Hid (IntKind.u64.wrap e.se = (wn e.se : Int)) := Lib.hid (wn_eq _)
          have W_st : Hid (IntKind.u64.wrap e.st = (wn e.st : Int)) := Lib.hid (wn_eq _)
          have W_z : Hid (IntKind.u64.wrap z = (wn z : Int)) := Lib.hid (wn_eq _)
          clear hck hcd he hz hzip hwr hl0 hl2 hBs hll hxs hxl hn4 hn12 hn14 c0 c1 c2 hwB b2
          go_upto_region 14 with fail
          clear k3
          refine region_ways4 B HBS.out (.one [0, 1, 2, 3, 4, 5, 6, 7, 10, 11, 12, 13, 14, 15, 16, 19, 20, 21, 22, 23, 24] 8 (.one [] 9 (.one [] 17 (.one [] 18 (.one [] 25 (.one [] 26 (.done [27]))))))) (by kernel_rfl) (by kernel_rfl) ?_
          rintro wd hbd
          have HBd : Hid (Below B wr wd) := Lib.hid (hbd.mono HBS.out)
          have HOd := Lib.hid (HO.out.below hbd)
          clear hbd
          rw [wpWays_one4]
          try simp only [List.map_cons, List.map_nil, opAt, List.getElem?_toArray, List.getElem?_cons_zero, List.getElem?_cons_succ, Option.getD_some]
          repeat (go_big_quiet_step (fail))
          refine wpQuiet_nil ?_
          clear E0 E1 E2 N2 N3
          go_wp2_with (go_at_call 37; rw [W_se.out]; refine (big_any 4 4 rfl (by omega) _ (wn_lt _) _).mono ?_; rintro e' w46 ⟨D46, d46, rfl, ho46, hb46⟩)
          have HD46 := Lib.hid ho46.bytes
          have HO46 := Lib.hid (HOd.out.below hb46)
          have HB46 := Lib.hid (HBd.out.trans (hb46.mono (Nat.le_trans HBS.out HBd.out.size)))
          clear ho46 hb46
          refine ⟨⟨⟨_, HB46.out⟩, rfl⟩, ?_⟩
          try simp only [Act.put, List.setIfInBounds_toArray, List.set_cons_zero, List.set_cons_succ]
          rw [wpWays_one4]
          try simp only [List.map_nil, opAt, List.getElem?_toArray, List.getElem?_cons_zero, List.getElem?_cons_succ, Option.getD_some]
          refine wpQuiet_nil ?_
          go_wp2_with (at_builtin; refine wpList_append_z rfl (.tmp 82) (.tmp 90) 27 rfl Try.underlying27 infoB rfl HO46.out D46 d46 4 (be (wn e.se) 4) (xs ++ be (wn e.se) 4) rfl (by simp [length_be]) HD46.out rfl (by rw [HXL.out]; have := HLB.out; have := LN.out; omega) (Nat.le_trans HBS.out HB46.out.size) ?_; intro A47 c47 w47 ho47 hg47)
          have HXL47 : (xs ++ be (wn e.se) 4).length = n4 := by rw [List.length_append, HXL.out, LN.out.1]; simp [length_be]; try (have := LN.out; omega)
          rw [HXL47] at ho47 ⊢
          have HXH47 := Lib.hid HXL47
          have HO47 := Lib.hid ho47
          have HB47 := Lib.hid (HO46.out.belowGrown (Nat.le_refl _) (Nat.le_trans HBS.out HB46.out.size) HB46.out hg47)
          clear ho47 hg47 HXL47
          refine ⟨⟨⟨_, HB47.out⟩, rfl⟩, ?_⟩
          try simp only [Act.put, List.setIfInBounds_toArray, List.set_cons_zero, List.set_cons_succ]
          rw [wpWays_one4]
          try simp only [List.map_nil, opAt, List.getElem?_toArray, List.getElem?_cons_zero, List.getElem?_cons_succ, Option.getD_some]
          refine wpQuiet_nil ?_
          go_wp2_with (go_at_call 37; rw [W_st.out]; refine (big_any 8 8 rfl (by omega) _ (wn_lt _) _).mono ?_; rintro e' w48 ⟨D48, d48, rfl, ho48, hb48⟩)
          have HD48 := Lib.hid ho48.bytes
          have HO48 := Lib.hid (HO47.out.below hb48)
          have HB48 := Lib.hid (HB47.out.trans (hb48.mono (Nat.le_trans HBS.out HB47.out.size)))
          clear ho48 hb48
          refine ⟨⟨⟨_, HB48.out⟩, rfl⟩, ?_⟩
          try simp only [Act.put, List.setIfInBounds_toArray, List.set_cons_zero, List.set_cons_succ]
          rw [wpWays_one4]
          try simp only [List.map_nil, opAt, List.getElem?_toArray, List.getElem?_cons_zero, List.getElem?_cons_succ, Option.getD_some]
          refine wpQuiet_nil ?_
          go_wp2_with (at_builtin; refine wpList_append_z rfl (.tmp 91) (.tmp 99) 27 rfl Try.underlying27 infoB rfl HO48.out D48 d48 8 (be (wn e.st) 8) ((xs ++ be (wn e.se) 4) ++ be (wn e.st) 8) rfl (by simp [length_be]) HD48.out rfl (by rw [HXH47.out]; have := HLB.out; have := LN.out; omega) (Nat.le_trans HBS.out HB48.out.size) ?_; intro A49 c49 w49 ho49 hg49)
          have HXL49 : ((xs ++ be (wn e.se) 4) ++ be (wn e.st) 8).length = n12 := by rw [List.length_append, HXH47.out, LN.out.2.1]; simp [length_be]; try (have := LN.out; omega)
          rw [HXL49] at ho49 ⊢
          have HXH49 := Lib.hid HXL49
          have HO49 := Lib.hid ho49
          have HB49 := Lib.hid (HO48.out.belowGrown (Nat.le_refl _) (Nat.le_trans HBS.out HB48.out.size) HB48.out hg49)
          clear ho49 hg49 HXL49
          refine ⟨⟨⟨_, HB49.out⟩, rfl⟩, ?_⟩
          try simp only [Act.put, List.setIfInBounds_toArray, List.set_cons_zero, List.set_cons_succ]
          rw [wpWays_one4]
          try simp only [List.map_nil, opAt, List.getElem?_toArray, List.getElem?_cons_zero, List.getElem?_cons_succ, Option.getD_some]
          refine wpQuiet_nil ?_
          go_wp2_with (go_at_call 37; rw [W_z.out]; refine (big_any 2 2 rfl (by omega) _ (wn_lt _) _).mono ?_; rintro e' w50 ⟨D50, d50, rfl, ho50, hb50⟩)
          have HD50 := Lib.hid ho50.bytes
          have HO50 := Lib.hid (HO49.out.below hb50)
          have HB50 := Lib.hid (HB49.out.trans (hb50.mono (Nat.le_trans HBS.out HB49.out.size)))
          clear ho50 hb50
          refine ⟨⟨⟨_, HB50.out⟩, rfl⟩, ?_⟩
          try simp only [Act.put, List.setIfInBounds_toArray, List.set_cons_zero, List.set_cons_succ]
          rw [wpWays_one4]
          try simp only [List.map_nil, opAt, List.getElem?_toArray, List.getElem?_cons_zero, List.getElem?_cons_succ, Option.getD_some]
          refine wpQuiet_nil ?_
          go_wp2_with (at_builtin; refine wpList_append_z rfl (.tmp 100) (.tmp 107) 27 rfl Try.underlying27 infoB rfl HO50.out D50 d50 2 (be (wn z) 2) (((xs ++ be (wn e.se) 4) ++ be (wn e.st) 8) ++ be (wn z) 2) rfl (by simp [length_be]) HD50.out rfl (by rw [HXH49.out]; have := HLB.out; have := LN.out; omega) (Nat.le_trans HBS.out HB50.out.size) ?_; intro A51 c51 w51 ho51 hg51)
          have HXL51 : (((xs ++ be (wn e.se) 4) ++ be (wn e.st) 8) ++ be (wn z) 2).length = n14 := by rw [List.length_append, HXH49.out, LN.out.2.2]; simp [length_be]; try (have := LN.out; omega)
          rw [HXL51] at ho51 ⊢
          have HXH51 := Lib.hid HXL51
          have HO51 := Lib.hid ho51
          have HB51 := Lib.hid (HO50.out.belowGrown (Nat.le_refl _) (Nat.le_trans HBS.out HB50.out.size) HB50.out hg51)
          clear ho51 hg51 HXL51
          refine ⟨⟨⟨_, HB51.out⟩, rfl⟩, ?_⟩
          try simp only [Act.put, List.setIfInBounds_toArray, List.set_cons_zero, List.set_cons_succ]
          rw [wpWays_done4]
          try simp only [List.map_cons, List.map_nil, opAt, List.getElem?_toArray, List.getElem?_cons_zero, List.getElem?_cons_succ, Option.getD_some]
          repeat (go_big_quiet_step (fail))
          refine wpQuiet_nil ?_
          have hnx : n14 = L0 + 14 * (j + 1) := by have := LN.out; have := HLL.out; omega
          have HOx := HO51
          rw [hnx] at HOx ⊢
          clear hnx
          go_wp2_with fail
          go_roundw
          case rel => exact ⟨j + 1, _, _, by omega, by go_num, rfl, Lib.hid (by rw [flat_take HZIP.out]; have h7 := HOx.out; rw [HXS.out] at h7; simpa [kidB, kyB] using h7), Lib.hid (HBR.out.trans HB51.out)⟩
          case measure => first | (simp [intOf]; done) | (simp [intOf]; omega)
        · obtain rfl : j = nd := by omega
          have hlen : L0 + 14 * j = L := by rw [HL.out, List.length_cons, List.length_append, flat_len length_enB, flat_len length_kidB, HL0.out]; simp; have := HND.out; have := HNK.out; have := HS2.out; have := HNE.out; omega
          have htk : (ks.zip ds).take j = ks.zip ds := List.take_of_length_le (by simp; have := HND.out; omega)
          rw [htk, HPRE.out] at HO
          rw [hlen] at HO ⊢
          have HO2 : Hid (OwnS wr w.heap.size (.slice A L c) 5 (b0 :: (es.flatMap enB ++ (ks.zip ds).flatMap kidB))) := Lib.hid (by simpa using HO.out.mono (by have := HWB.out; omega))
          clear HO hlen htk
          go_wp2_with fail
          go_ret2
          exact ⟨A, c, rfl, HO2.out, HBW.out.trans (HBR.out.mono (by have := HWB.out; omega))⟩
end Go.Proofs.Ytgkddhncfaeidaa
