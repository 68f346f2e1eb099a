/- Squeezed: the texts as they are written lie in wip/tpl. -/
import Derived.Test.YtgkddhncfaeidaaGreatPart21
import Derived.Test.YtgkddhncfaeidaaGreatPart14
import Derived.Test.YtgkddhncfaeidaaGreatPart13
import Derived.Test.YtgkddhncfaeidaaGreatPart12
set_option maxRecDepth 100000
set_option maxHeartbeats 8000000
set_option linter.unnecessarySimpa false
set_option linter.unusedSimpArgs false
set_option linter.unusedVariables false
namespace Go.Proofs.YtgkddhncfaeidaaGreat
open Go.RowKit Go.ChangeShapes Go.WideShapes Go.ChangeAt CrcM PageM
theorem OutT.thenNew {gc B0:Nat} {T:TypeId} {w w1 w2:World} (h:OutT gc B0 T w w1) (hb:Below w.heap.size w1 w2):OutT gc B0 T w w2 :=
 ⟨hb.os.trans h.os,hb.tape.trans h.tape,hb.output.trans h.output,Nat.le_trans h.size hb.size,fun k hk hg hT=>(hb.block k hk).trans (h.block k hk hg hT)⟩
theorem grown_new {B1 B sz n:Nat} {E:TypeId} {v:Value} {us:List Value} {w1 w2:World} (R:w1.ownsRow B1 E sz v n us) (hB:B≤B1) (hs:B≤w1.heap.size) (g:w1.grownBy w2 v.ownBlock):Below B w1 w2 :=
 (Below.refl B w1).grown g hs (fun k hk=>by have:=(World.ownsRow.lt R k hk).1;omega)
def kidI (a:Nat):Int:=(a:Int)
def ChAt (w:World) (A:Option Addr) (pr:List (NodeD × NdL)):Prop:=pr≠[]→∃ (b:Nat) (cs:Array Value),A=some ⟨b,0,none⟩∧w.heap[b]?=some (.cells cs 86 (0,0))∧∀ (i:Nat) (u:Value),(pr.flatMap ndP)[i]?=some u→cs[i]?=some u
theorem ChAt.of_row {w:World} {base c:Nat} {A:Option Addr} {pr:List (NodeD × NdL)} (h:w.ownsRow base 86 4 (.slice A pr.length c) pr.length (pr.flatMap ndP)):ChAt w A pr:=fun hne=>by
 rcases h.2 with ⟨_,h0⟩ | ⟨g,cap,cur,hv,hb,hg,_,_,_,hr⟩
 ·exact absurd (List.length_eq_zero_iff.1 h0) hne
 ·cases hv
  refine ⟨g,cur,rfl,hg,fun i u hu=>?_⟩
  rw [← hr] at hu
  have h1:i<(cur.toList.take (pr.length*4)).length:=(List.getElem?_eq_some_iff.1 hu).1
  rw [List.getElem?_take_of_lt (by simp at h1;omega)] at hu
  simpa using hu
theorem meas_step2 {M k:Nat} {z:Int} (h:k<M) (e:z=(k:Int)+1):M - (intOf (.int .i64 z)).toNat<M - (intOf (.int .i64 (k:Int))).toNat:=by
 subst e
 simp only [intOf]
 omega
structure AbS (w wr:World) (gc gv p B0:Nat) (U V:List Bool) (L:List (Nat × (NodeD × NdL))) (pr:List (NodeD × NdL)) (qs:List Nat) (k:Nat) (lv vK vD:Value):Prop where
 chg:ChgS wr gc gv p B0 (marks U (qs.take k)) V lv (L ++ (qs.zip pr).take k)
 out:OutT gc B0 151 w wr
 res:∃ Z,wr.heap[w.heap.size]?=some (.cells Z 86 (0,0))∧Z.size=4
 box:wr.heap[w.heap.size+1]?=some (.cells #[.bool false,.slice none 0 0,vK,vD] 86 (0,0))
 rK:wr.ownsRow (w.heap.size+2) 38 2 vK k ((pr.take k).flatMap fun x=>kyC (leastK x.1))
 rD:wr.ownsRow (w.heap.size+2) 3 1 vD k ((qs.take k).map fun a=>kdC (kidI a))
theorem chg_ne_box {w:World} {gc gv p B0 k:Nat} {U V:List Bool} {lv:Value} {L:List (Nat × (NodeD × NdL))} (h:ChgS w gc gv p B0 U V lv L) {cs:Array Value} {T:TypeId} {fr:Nat × Nat} (hk:w.heap[k]?=some (.cells cs T fr)) (hne:T≠114):k≠gc:=fun e=>row_ne_typed h.chg e hk hne
theorem above_by (gc gv p B0:Nat) (U V:List Bool) (lv:Value) (L:List (Nat × (NodeD × NdL))) (hU:U.length=512) (hV:V.length=512) (pr:List (NodeD × NdL)) (qs:List Nat) (hq:qs.length=pr.length)
 (hL:L.length+pr.length≤100000) (A:Option Addr) (c:Nat) (w:World) (h:ChgS w gc gv p B0 U V lv L) (hA:ChAt w A pr)
 (hn:∀ x ∈ pr,NodeT w x.1 x.2∧1≤x.1.size∧(x.1.leaf=false→x.1.ks.length=x.1.ds.length)) (htk:∀ (k a:Nat) (lv':Value) (W:World),qs[k]?=some a→OutT gc B0 151 w W→ChgAt W gc gv (p:Int) (marks U (qs.take k)) V lv'→Calls Tryz.prog 81 #[.pointer (some ⟨gc,0,none⟩)] W fun e w'=>e=.returned (.tuple #[.int .i64 (a:Int),.int .i64 0])∧ChgAt w' gc gv (p:Int) (markN (marks U (qs.take k)) a true 1) V lv'∧OuterX (fun k=>k=gc) W w') :
 Calls Tryz.prog 51 #[.pointer (some ⟨gc,0,none⟩),.slice A pr.length c] w fun e w'=>∃ (l':NdL) (lv':Value),e=.returned (.tuple #[.agg #[.bool false,.slice none 0 0,.slice l'.KA pr.length l'.kc,.slice l'.DA pr.length l'.dc],.int .i64 0]) ∧
  NodeT w' ⟨false,[],pr.map fun x=>leastK x.1,qs.map kidI⟩ { l' with EA:=none,ec:=0 }∧ChgS w' gc gv p B0 (marks U qs) V lv' (L ++ qs.zip pr)∧OutT gc B0 151 w w':=by
 obtain ⟨m,hm⟩:∃ m,pr.length=m:=⟨_,rfl⟩
 have HM:=Lib.hid hm
 have HQ:=Lib.hid (hq.trans hm)
 have H:=Lib.hid h
 have HU:=Lib.hid hU
 have HV:=Lib.hid hV
 have HTK:=Lib.hid htk
 have HL:=Lib.hid hL
 have HA:=Lib.hid hA
 have HN:=Lib.hid hn
 rw [hm] at hL ⊢
 clear hm hq h hU hV htk hA hn
 go_enter Tryz.func51,Tryz.ntmps51
 go_upto_region 2 with fail
 obtain ⟨w2,hw2⟩:∃ w2,w2=(w.alloc (.cells #[.bool false,.slice none 0 0,.slice none 0 0,.slice none 0 0] 86)).alloc (.cells #[.bool false,.slice none 0 0,.slice none 0 0,.slice none 0 0] 86):=⟨_,rfl⟩
 have HS2:Hid (w2.heap.size=w.heap.size+2):=Lib.hid (by rw [hw2];simp)
 have B2:Hid (Below w.heap.size w w2):=Lib.hid (by rw [hw2];exact ((Below.refl _ _).alloc (Nat.le_refl _) _).alloc (by simp) _)
 have G4:Hid (w2.heap[w.heap.size]?=some (.cells #[.bool false,.slice none 0 0,.slice none 0 0,.slice none 0 0] 86 (0,0))):=Lib.hid (by rw [hw2];exact row_stays (heap_alloc_new _ _) ((Below.refl _ _).alloc (Nat.le_refl _) _))
 have G6:Hid (w2.heap[w.heap.size+1]?=some (.cells #[.bool false,.slice none 0 0,.slice none 0 0,.slice none 0 0] 86 (0,0))):=Lib.hid (by rw [hw2,show w.heap.size+1=(w.alloc (.cells #[.bool false,.slice none 0 0,.slice none 0 0,.slice none 0 0] 86)).heap.size by simp];exact heap_alloc_new _ _)
 rw [← hw2]
 clear hw2
 have HST:Hid (AbS w w2 gc gv p B0 U V L pr qs 0 lv (.slice none 0 0) (.slice none 0 0)):=Lib.hid { chg:=by simpa [marks] using H.out.below B2.out,out:=OutT.of_below B2.out,res:=⟨_,G4.out,rfl⟩,box:=G6.out,rK:=World.ownsRow_nil _ _ _ _,rD:=World.ownsRow_nil _ _ _ _ }
 clear G4 G6 HS2 B2
 go_upto_region 3 with fail
 go_loopw [13] (fun i wr=>∃ k:Nat,k≤m∧i=.int .i64 (k:Int)∧Hid (∃ lv vK vD,AbS w wr gc gv p B0 U V L pr qs k lv vK vD))
  (fun i _=>m - (intOf i).toNat)
 case atStart=>exact ⟨0,Nat.zero_le _,rfl,Lib.hid ⟨_,_,_,HST.out⟩⟩
 case round =>
  clear HST
  obtain ⟨k,hk,rfl,HR⟩:=hrel
  obtain ⟨lv,vK,vD,hs⟩:=HR.out
  have HS:=Lib.hid hs
  clear HR hs
  have hkw:wrap64 ((k:Int)+1)=(k:Int)+1:=by have:=hL;unfold wrap64;omega
  by_cases hlt:k<m
  ·obtain ⟨x,hx⟩:∃ x,pr[k]?=some x:=⟨_,List.getElem?_eq_getElem (by rw [HM.out];exact hlt)⟩
   obtain ⟨a,ha⟩:∃ a,qs[k]?=some a:=⟨_,List.getElem?_eq_getElem (by rw [HQ.out];exact hlt)⟩
   have HX:=Lib.hid hx
   have HAA:=Lib.hid ha
   have HXN:=Lib.hid (HN.out x (List.mem_of_getElem? hx))
   obtain ⟨b,cs,hAb,hbc,hcs⟩:=HA.out (by intro e;rw [e] at hx;simp at hx)
   subst hAb
   have hbw:=(HS.out.out.typed hbc (by decide) (chg_ne_box H.out hbc (by decide))).trans hbc
   have q:=fun j u (hu:(ndP x)[j]?=some u)=>nd_cell hbw (k*4+j) u (hcs _ _ (flat_get lenNdP pr k x j u hx hu))
   have e0:=q 0 _ rfl
   have e1:=q 1 _ rfl
   have e2:=q 2 _ rfl
   have e3:=q 3 _ rfl
   rw [Nat.add_zero] at e0
   have hkm:decide ((k:Int)<(m:Int))=true:=by simp;omega
   clear hx ha q hcs hbw
   have HUK:Hid ((marks U (qs.take k)).length=512):=Lib.hid (by rw [length_marks];exact HU.out)
   have HLY:Hid (∀ W,OutT gc B0 151 w W→ChgS W gc gv p B0 (marks U (qs.take k)) V lv (L ++ (qs.zip pr).take k)→Calls Tryz.prog 54 #[.pointer (some ⟨gc,0,none⟩),.agg #[.bool x.1.leaf,.slice x.2.EA x.1.es.length x.2.ec,.slice x.2.KA x.1.ks.length x.2.kc,.slice x.2.DA x.1.ds.length x.2.dc]] W fun e w'=>e=.returned (.tuple #[.int .i64 (a:Int),.int .i64 0])∧(∃ lv',ChgS w' gc gv p B0 (marks U (qs.take (k+1))) V lv' (L ++ (qs.zip pr).take (k+1)))∧OutT gc B0 151 W w'):=Lib.hid (fun W ho hW=>by
    have hz:(qs.zip pr)[k]?=some (a,x):=by rw [List.getElem?_zip_eq_some];exact ⟨HAA.out,HX.out⟩
    rw [take_snoc HAA.out,marks_snoc,take_snoc hz,← List.append_assoc]
    exact lay_by gc gv p B0 _ V lv _ HUK.out HV.out a x (by rw [List.length_append,List.length_take];omega) W hW (fun W2 hb2=>HTK.out k a lv W2 HAA.out (ho.trans (OutT.of_below hb2)) (hW.chg.below hb2)))
   go_upto_region 5 with fail
   obtain ⟨wa,hwa⟩:∃ wa,wa=wr.alloc (.cells #[.bool x.1.leaf,.slice x.2.EA x.1.es.length x.2.ec,.slice x.2.KA x.1.ks.length x.2.kc,.slice x.2.DA x.1.ds.length x.2.dc] 86):=⟨_,rfl⟩
   have GA:Hid (wa.heap[wr.heap.size]?=some (.cells #[.bool x.1.leaf,.slice x.2.EA x.1.es.length x.2.ec,.slice x.2.KA x.1.ks.length x.2.kc,.slice x.2.DA x.1.ds.length x.2.dc] 86 (0,0))):=Lib.hid (by rw [hwa];exact heap_alloc_new _ _)
   have BA:=Lib.hid (alloc_bel hwa)
   have CA:=Lib.hid (HS.out.chg.below BA.out)
   rw [← hwa]
   clear hwa e0 e1 e2 e3
   go_upto_region 8 with (first
    | (refine wpList_load_row rfl 86 (.tmp 8) rfl wr.heap.size rfl 86 _ (0,0) _ GA.out Tryz.underlying86 rfl (by kernel_rfl) ?_)
    | (go_at_call 54;refine (HLY.out _ (HS.out.out.trans (OutT.of_below BA.out)) CA.out).mono ?_;rintro e w3 ⟨rfl,⟨lv3,hc3⟩,ho3⟩;have C3:=Lib.hid hc3;have O3:=Lib.hid ho3;clear hc3 ho3))
   have OW3:Hid (OutT gc B0 151 w w3):=Lib.hid ((HS.out.out.trans (OutT.of_below BA.out)).trans O3.out)
   have G8:=Lib.hid ((O3.out.typed GA.out (by decide) (chg_ne_box CA.out GA.out (by decide))).trans GA.out)
   have hbx:=row_stays HS.out.box BA.out
   have G6:=Lib.hid ((O3.out.typed hbx (by decide) (chg_ne_box CA.out hbx (by decide))).trans hbx)
   have G4:Hid (∃ Z,w3.heap[w.heap.size]?=some (.cells Z 86 (0,0))∧Z.size=4):=Lib.hid (by
    obtain ⟨Z,hz,hzs⟩:=HS.out.res
    have hz2:=row_stays hz BA.out
    exact ⟨Z,(O3.out.typed hz2 (by decide) (chg_ne_box CA.out hz2 (by decide))).trans hz2,hzs⟩)
   have RK:=Lib.hid (O3.out.row (row_below HS.out.rK BA.out) (by decide) CA.out.chg (by decide))
   have RD:=Lib.hid (O3.out.row (row_below HS.out.rD BA.out) (by decide) CA.out.chg (by decide))
   have NX:=Lib.hid (HXN.out.1.outT OW3.out H.out.chg)
   clear hbx
   have hXb:¬ (vK.ownBlock=some (w.heap.size+1)):=fun e=>by have:=(World.ownsRow.lt RK.out _ e).1;omega
   have hX8:¬ (vK.ownBlock=some wr.heap.size):=fun e=>by
    have:=(World.ownsRow.lt HS.out.rK _ e).2
    omega
   have g1:∀ y:SubX (fun k=>vK.ownBlock=some k) w3,y.at_.cell? ⟨w.heap.size+1,2,none⟩=some vK:=fun y=>nd_cell (y.ok_.heap G6.out hXb) 2 _ rfl
   have g2:∀ y:SubX (fun k=>vK.ownBlock=some k) w3,y.at_.heap[wr.heap.size]?=some (.cells #[.bool x.1.leaf,.slice x.2.EA x.1.es.length x.2.ec,.slice x.2.KA x.1.ks.length x.2.kc,.slice x.2.DA x.1.ds.length x.2.dc] 86 (0,0)):=fun y=>y.ok_.heap G8.out hX8
   refine region_waysX 7 (fun k=>vK.ownBlock=some k) (.one [0,1,2] 3 (.one [] 4 (.one [] 5 (.done [6])))) (by kernel_rfl) (by kernel_rfl) ?_
   rintro wd hbd
   have BD:=Lib.hid hbd
   clear hbd
   rw [wpWaysT_one]
   try simp only [List.map_cons,List.map_nil,opAt,List.getElem?_toArray,List.getElem?_cons_zero,List.getElem?_cons_succ,Option.getD_some]
   repeat (first
    | (go_big_quiet_want;refine quietX_load_row 86 (.tmp 8) rfl wr.heap.size rfl 86 _ (0,0) _ g2 Tryz.underlying86 rfl (by kernel_rfl) ?_;simp only [Act.put,List.setIfInBounds_toArray,List.set_cons_zero,List.set_cons_succ];go_big_quiet_on)
    | go_big_quiet_step (fail))
   clear g1 g2
   refine wpQuiet_nil ?_
   go_wp2_with (go_at_call 77;refine (least_any x.1 x.2 (leastK x.1) (leastK_has HXN.out.2.1 HXN.out.2.2) _ (NX.out.at_.below BD.out)).mono ?_;rintro e w4 ⟨rfl,hb4⟩;have B4:=Lib.hid (BD.out.trans (hb4.mono BD.out.size));clear hb4)
   refine ⟨⟨⟨_,outerX_of_below B4.out⟩,rfl⟩,?_⟩
   try simp only [Act.put,List.setIfInBounds_toArray,List.set_cons_zero,List.set_cons_succ]
   rw [wpWaysT_one]
   try simp only [List.map_cons,List.map_nil,opAt,List.getElem?_toArray,List.getElem?_cons_zero,List.getElem?_cons_succ,Option.getD_some]
   refine wpQuiet_nil ?_
   go_wp2_with fail
   obtain ⟨wz,hwz⟩:∃ wz,wz=w4.alloc (.cells #[.int .i64 (leastK x.1).se,.int .i64 (leastK x.1).st] 38):=⟨_,rfl⟩
   rw [← hwz]
   have BZ:=Lib.hid (B4.out.trans ((alloc_bel hwz).mono B4.out.size))
   have CZ:Hid (CellsAt wz (some ⟨w4.heap.size,0,none⟩) (kyC (leastK x.1))):=Lib.hid (by
    rw [hwz]
    exact fun _=>⟨_,0,rfl,fun j hj=>by
     rw [Nat.zero_add]
     exact nd_cell (heap_alloc_new w4 _) j _ (by simpa [kyC] using hj)⟩)
   have RZ:=Lib.hid (row_below RK.out BZ.out)
   clear hwz
   refine ⟨⟨⟨_,outerX_of_below BZ.out⟩,rfl⟩,?_⟩
   try simp only [Act.put,List.setIfInBounds_toArray,List.set_cons_zero,List.set_cons_succ]
   rw [wpWaysT_one]
   try simp only [List.map_cons,List.map_nil,opAt,List.getElem?_toArray,List.getElem?_cons_zero,List.getElem?_cons_succ,Option.getD_some]
   refine wpQuiet_nil ?_
   go_wp2_with (at_builtin;refine wpList_append_row rfl (.tmp 28) (.tmp 31) 84 rfl Tryz.underlying84 (.agg #[.int .i64 0,.int .i64 0]) 16 infoKey_to_any (by rfl) (by decide) _ rfl RZ.out (some ⟨w4.heap.size,0,none⟩) 1 1 rfl rfl CZ.out (kyC_one _) (by have:=hL;omega) (by have:=hL;unfold maxLen;omega) (by have:=OW3.out.size;have:=BZ.out.size;have:=HS.out.out.size;have:=(Array.getElem?_eq_some_iff.1 G6.out).1;omega) (k+1) rfl ((pr.take k).flatMap (fun x=>kyC (leastK x.1)) ++ kyC (leastK x.1)) rfl ?_;intro A1 c1 x1 R1 g1;have OX:Hid (OuterX (fun k=>vK.ownBlock=some k) w3 x1):=Lib.hid ((outerX_of_below BZ.out).grown g1 (fun k hk=>.inl hk));have KX:Hid (KeptNot 38 wz x1):=Lib.hid (KeptNot.of_row RZ.out g1);have NX1:Hid (Below w.heap.size wz x1):=Lib.hid (grown_new RZ.out (by omega) (by have:=OW3.out.size;have:=BZ.out.size;omega) g1);have RX:=Lib.hid R1;clear R1 g1)
   refine ⟨⟨⟨_,OX.out⟩,rfl⟩,?_⟩
   try simp only [Act.put,List.setIfInBounds_toArray,List.set_cons_zero,List.set_cons_succ]
   rw [wpWaysT_done]
   simp only [List.map_cons,List.map_nil,List.drop_succ_cons,List.drop_zero,opAt,List.getElem?_toArray,List.getElem?_cons_zero,List.getElem?_cons_succ,Option.getD_some]
   repeat (first
    | go_big_quiet_step (fail))
   refine wpQuiet_nil ?_
   have K1:=Lib.hid ((KeptNot.of_below (E:=38) BZ.out).trans KX.out)
   have BW1:Hid (Below w.heap.size w3 x1):=Lib.hid ((BZ.out.mono (by have:=OW3.out.size;omega)).trans NX1.out)
   have G6x:=Lib.hid (K1.out.heap G6.out (by decide))
   have k1:=nd_cell G6x.out 2 _ rfl
   have k2:x1.frozen? ⟨w.heap.size+1,2,none⟩=false:=nd_frozen G6x.out
   simp only [List.getElem_toArray,List.getElem_cons_succ,List.getElem_cons_zero] at k1
   go_upto_region 9 with fail
   obtain ⟨x2,hx2⟩:∃ x2,x2=x1.setCell ⟨w.heap.size+1,2,none⟩ (.slice A1 (k+1) c1):=⟨_,rfl⟩
   have KS:Hid (KeptNot 86 x1 x2):=Lib.hid (by rw [hx2];exact KeptNot.of_cell G6x.out _)
   have BS:Hid (Below w.heap.size x1 x2):=Lib.hid (by rw [hx2];exact bel_cell (Below.refl _ _) (Nat.le_succ _))
   have G6:Hid (x2.heap[w.heap.size+1]?=some (.cells #[.bool false,.slice none 0 0,.slice A1 (k+1) c1,vD] 86 (0,0))):=Lib.hid (by rw [hx2];exact heap_setCell_same x1 (w.heap.size+1) 2 _ _ _ G6x.out)
   have G4:Hid (∃ Z,x2.heap[w.heap.size]?=some (.cells Z 86 (0,0))∧Z.size=4):=Lib.hid (by
    obtain ⟨Z,hz,hzs⟩:=G4.out
    refine ⟨Z,?_,hzs⟩
    rw [hx2,Below.heap_setCell x1 ⟨w.heap.size+1,2,none⟩ _ w.heap.size (by show w.heap.size≠w.heap.size+1;omega)]
    exact K1.out.heap hz (by decide))
   have RK:=Lib.hid (KS.out.row RX.out (by decide))
   have RD:=Lib.hid (KS.out.row (K1.out.row RD.out (by decide)) (by decide))
   have C5:=Lib.hid (KS.out.chg (K1.out.chg C3.out (by decide) (by decide)) (by decide) (by decide))
   have OW5:Hid (OutT gc B0 151 w x2):=Lib.hid ((OW3.out.thenNew BW1.out).thenNew BS.out)
   try rw [← hx2]
   clear hx2 K1 BW1 G6x k1 k2 KS BS RX NX1 KX OX RZ CZ BZ B4 BD hXb hX8 C3 O3 OW3 G8 GA BA CA
   have k3:=nd_cell G6.out 3 _ rfl
   simp only [List.getElem_toArray,List.getElem_cons_succ,List.getElem_cons_zero] at k3
   go_upto_region 10 with (at_builtin;refine wpList_append_row rfl (.tmp 35) (.tmp 37) 59 rfl Tryz.underlying59 (.int .i64 0) 8 infoIntN (by rfl) (by decide) _ rfl (row_below RD.out (alloc_bel rfl)) (some ⟨x2.heap.size,0,none⟩) 1 1 rfl rfl (cellsAt_new x2 [kdC (kidI a)] 3) (kdC_one [kidI a]) (by have:=hL;omega) (by have:=hL;unfold maxLen;omega) (by have:=(Array.getElem?_eq_some_iff.1 G6.out).1;simp;omega) (k+1) rfl (((qs.take k).map fun a=>kdC (kidI a)) ++ [kdC (kidI a)]) rfl ?_;intro A2 c2 x3 R3 g3;have K3:Hid (KeptNot 3 x2 x3):=Lib.hid ((KeptNot.of_below (alloc_bel rfl)).trans (KeptNot.of_row (row_below RD.out (alloc_bel rfl)) g3));have N3:Hid (Below w.heap.size x2 x3):=Lib.hid (((alloc_bel rfl).mono (by have:=(Array.getElem?_eq_some_iff.1 G6.out).1;omega)).trans (grown_new (row_below RD.out (alloc_bel rfl)) (by omega) (by have:=(Array.getElem?_eq_some_iff.1 G6.out).1;simp;omega) g3));have RX:=Lib.hid R3;clear R3 g3;have G6y:=Lib.hid (K3.out.heap G6.out (by decide));have k4:=nd_cell G6y.out 3 vD rfl;have k5:x3.frozen? ⟨w.heap.size+1,3,none⟩=false:=nd_frozen G6y.out)
   obtain ⟨x4,hx4⟩:∃ x4,x4=x3.setCell ⟨w.heap.size+1,3,none⟩ (.slice A2 (k+1) c2):=⟨_,rfl⟩
   have KS:Hid (KeptNot 86 x3 x4):=Lib.hid (by rw [hx4];exact KeptNot.of_cell G6y.out _)
   have BS:Hid (Below w.heap.size x3 x4):=Lib.hid (by rw [hx4];exact bel_cell (Below.refl _ _) (Nat.le_succ _))
   have HEND:Hid (∃ lv vK vD,AbS w x4 gc gv p B0 U V L pr qs (k+1) lv vK vD):=Lib.hid ⟨lv3,.slice A1 (k+1) c1,.slice A2 (k+1) c2,{
    chg:=KS.out.chg (K3.out.chg C5.out (by decide) (by decide)) (by decide) (by decide)
    out:=(OW5.out.thenNew N3.out).thenNew BS.out
    res:=by
     obtain ⟨Z,hz,hzs⟩:=G4.out
     refine ⟨Z,?_,hzs⟩
     rw [hx4,Below.heap_setCell x3 ⟨w.heap.size+1,3,none⟩ _ w.heap.size (by show w.heap.size≠w.heap.size+1;omega)]
     exact K3.out.heap hz (by decide)
    box:=by rw [hx4];exact heap_setCell_same x3 (w.heap.size+1) 3 _ _ _ G6y.out
    rK:=by rw [take_snoc HX.out,List.flatMap_append,List.flatMap_cons,List.flatMap_nil,List.append_nil];exact KS.out.row (K3.out.row RK.out (by decide)) (by decide)
    rD:=by rw [take_snoc HAA.out,List.map_append];exact KS.out.row RX.out (by decide) }⟩
   try rw [← hx4]
   clear hx4 KS BS K3 N3 RX G6y k3 k4 k5 RK RD C5 OW5 G6 G4 NX
   go_wp2_with fail
   go_roundw
   case rel=>exact ⟨k+1,by omega,by go_num,HEND⟩
   case measure=>exact meas_step2 hlt rfl
  ·obtain rfl:k=m:=by omega
   have hkm:decide ((k:Int)<(k:Int))=false:=by simp
   obtain ⟨Z4,hz4,hzs4⟩:=HS.out.res
   have HZ4:=Lib.hid hz4
   have HZS:=Lib.hid hzs4
   clear hz4 hzs4
   obtain ⟨AK,cK,rfl⟩:=row_form HS.out.rK
   obtain ⟨AD,cD,rfl⟩:=row_form HS.out.rD
   go_wp2_with (first
    | (refine wpList_load_row rfl 86 (.tmp 6) rfl (w.heap.size+1) rfl 86 _ (0,0) _ HS.out.box Tryz.underlying86 rfl (by kernel_rfl) ?_)
    | (refine wpList_store_row rfl 86 (.tmp 4) (.tmp 41) rfl w.heap.size #[.bool false,.slice none 0 0,.slice AK k cK,.slice AD k cD] rfl rfl 86 Z4 HZ4.out (by kernel_rfl) HZS.out (by simp [Value.oneCell']) ?_))
   have KF:=Lib.hid (KeptNot.of_setRow HZ4.out #[.bool false,.slice none 0 0,.slice AK k cK,.slice AD k cD])
   have RKF:=Lib.hid (KF.out.row HS.out.rK (by decide))
   have RDF:=Lib.hid (KF.out.row HS.out.rD (by decide))
   have ept:pr.take k=pr:=List.take_of_length_le (by rw [HM.out];exact Nat.le_refl _)
   have eqt:qs.take k=qs:=List.take_of_length_le (by rw [HQ.out];exact Nat.le_refl _)
   have ezt:(qs.zip pr).take k=qs.zip pr:=List.take_of_length_le (by rw [List.length_zip,HM.out,HQ.out];omega)
   refine bodyPost_ret (v:=.tuple #[.agg #[.bool false,.slice none 0 0,.slice AK k cK,.slice AD k cD],.int .i64 0]) (results_cell_tmpB (p:=4) (u:=5) (ty:=86) rfl _ _ w.heap.size 86 _ (0,0) _ rfl (setRow_heap _ _ _ _ _ _ HZ4.out) Tryz.underlying86 rfl (by kernel_rfl)) rfl ?_
   refine ⟨⟨none,0,AK,cK,AD,cD⟩,lv,rfl,?_,?_,?_⟩
   ·have rk:(wr.setRow w.heap.size #[.bool false,.slice none 0 0,.slice AK k cK,.slice AD k cD]).ownsRow (w.heap.size+2) 38 2 (.slice AK k cK) k ((pr.map fun x=>leastK x.1).flatMap kyC):=by
     have h1:=RKF.out
     rw [ept] at h1
     rwa [List.flatMap_map]
    have rd:(wr.setRow w.heap.size #[.bool false,.slice none 0 0,.slice AK k cK,.slice AD k cD]).ownsRow (w.heap.size+2) 3 1 (.slice AD k cD) k ((qs.map kidI).map kdC):=by
     have h1:=RDF.out
     rw [eqt] at h1
     rw [List.map_map]
     exact h1
    have ck:=row_cap rk
    have cd:=row_cap rd
    exact { at_:={ e:=fun h=>absurd rfl h,k:=KyAt.of_row rk,d:=KdAt.of_row rd,ec:=Nat.le_refl _,kc:=by show (pr.map fun x=>leastK x.1).length≤cK;rw [List.length_map,HM.out];exact ck.1,dc:=by show (qs.map kidI).length≤cD;rw [List.length_map,HQ.out];exact cd.1,em:=Nat.zero_le _,km:=ck.2,dm:=cd.2 }
            te:=fun h=>absurd rfl h
            tk:=fun h=>HasTy.of_row rk (by intro e;apply h;show (pr.map fun x=>leastK x.1)=[];rw [← ept,e];rfl)
            td:=fun h=>HasTy.of_row rd (by intro e;apply h;show qs.map kidI=[];rw [← eqt,e];rfl) }
   ·have h1:=KF.out.chg HS.out.chg (by decide) (by decide)
    rw [eqt,ezt] at h1
    exact h1
   ·exact HS.out.out.thenNew (below_setRow (Below.refl _ _) (Nat.le_refl _) _)
theorem above_yes (gc gv p B0:Nat) (U V:List Bool) (lv:Value) (L:List (Nat × (NodeD × NdL))) (hU:U.length=512) (hV:V.length=512) (okU:okM (p:Int) U) (okV:okM (p:Int) V) (pr:List (NodeD × NdL)) (qs:List Nat) (hq:qs.length=pr.length) (hp:Picks p V U qs)
 (hL:L.length+pr.length≤100000) (A:Option Addr) (c:Nat) (w:World) (h:ChgS w gc gv p B0 U V lv L) (hA:ChAt w A pr)
 (hn:∀ x ∈ pr,NodeT w x.1 x.2∧1≤x.1.size∧(x.1.leaf=false→x.1.ks.length=x.1.ds.length)) :
 Calls Tryz.prog 51 #[.pointer (some ⟨gc,0,none⟩),.slice A pr.length c] w fun e w'=>∃ (l':NdL) (lv':Value),e=.returned (.tuple #[.agg #[.bool false,.slice none 0 0,.slice l'.KA pr.length l'.kc,.slice l'.DA pr.length l'.dc],.int .i64 0]) ∧
  NodeT w' ⟨false,[],pr.map fun x=>leastK x.1,qs.map kidI⟩ { l' with EA:=none,ec:=0 }∧ChgS w' gc gv p B0 (marks U qs) V lv' (L ++ qs.zip pr)∧OutT gc B0 151 w w' :=
 above_by gc gv p B0 U V lv L hU hV pr qs hq hL A c w h hA hn (fun k a lv' W ha _ hc=>by
  have hfp:=hp.at ha
  have hpk:Picks p V U (qs.take k):=by have h0:=hp;rw [← List.take_append_drop k qs] at h0;exact h0.append.1
  exact take_yes gc gv p _ V lv' (by rw [length_marks];exact hU) hV (okM_marks hpk okU hU) okV a hfp.1 hfp.2 W hc)
end Go.Proofs.YtgkddhncfaeidaaGreat
namespace Go.Proofs.YtgkddhncfaeidaaGreat
open Go.ChangeShapes Go.WideShapes Go.ChangeAt Go.RowKit CrcM PageM
theorem upK_step {ks:List KeyD} {k:KeyD} (h:∀ (i:Nat) (x y:KeyD),ks[i]?=some x→ks[i+1]?=some y→lessB x y=true):UpK ks k:=by
 intro a b x y hab hx hy
 obtain ⟨d,rfl⟩:∃ d,b=a+1+d:=⟨b - (a+1),by omega⟩
 clear hab
 induction d generalizing y with
 | zero=>exact h a x y hx hy
 | succ d ih =>
   obtain ⟨z,hz⟩:∃ z,ks[a+1+d]?=some z:=⟨_,List.getElem?_eq_getElem (by have:=(List.getElem?_eq_some_iff.1 hy).1;omega)⟩
   exact lessB_trans (ih z hz) (h (a+1+d) z y hz hy)
theorem upK_ents {es:List EntD} (h:okEnts es) (k:KeyD):UpK (es.map EntD.key) k:=upK_step fun i x y hx hy=>by
 rw [List.getElem?_map] at hx hy
 obtain ⟨p,hp,rfl⟩:=Option.map_eq_some_iff.1 hx
 obtain ⟨e,he,rfl⟩:=Option.map_eq_some_iff.1 hy
 obtain ⟨e',h1,_,h3⟩:=h.2.2 (i+1) (List.getElem?_eq_some_iff.1 he).1
 rw [he] at h1
 cases h1
 rcases h3 with h3 | ⟨p',h3,h4⟩
 ·cases h3
 ·simp only [Nat.add_sub_cancel] at h3
  rw [hp] at h3
  cases h3
  unfold apartB at h4
  exact (Bool.and_eq_true_iff.1 h4).1
theorem upK_keys {ks:List KeyD} (h:okKeys ks) (k:KeyD):UpK ks k:=upK_step fun i x y hx hy=>by
 obtain ⟨e',h1,_,h3⟩:=h.2.2 (i+1) (List.getElem?_eq_some_iff.1 hy).1
 rw [hy] at h1
 cases h1
 rcases h3 with h3 | ⟨p',h3,h4⟩
 ·cases h3
 ·simp only [Nat.add_sub_cancel] at h3
  rw [hx] at h3
  cases h3
  exact h4
theorem upK_nil (k:KeyD):UpK [] k:=fun a b x y _ hx _=>by simp at hx
def Tre (rd:Nat→NodeD→Prop):Nat→NodeD→List EntD→Prop
 | 0,n,es=>n.leaf=true∧n.es=es∧n.ks=[]∧n.ds=[]
 | h+1,n,es=>n.leaf=false∧n.es=[]∧∃ parts:List (Nat × (NodeD × List EntD)),n.ds=parts.map (fun x=>kidI x.1)∧n.ks=parts.map (fun x=>leastK x.2.1)∧(∀ x ∈ parts,rd x.1 x.2.1∧Tre rd h x.2.1 x.2.2∧1≤x.2.2.length)∧es=parts.flatMap (fun x=>x.2.2)∧1≤parts.length
structure StepD where
 a:Nat
 n:NodeD
 at_:Nat
def Down (rd:Nat→NodeD→Prop) (k:KeyD):Nat→Nat→NodeD→List EntD→List StepD→Prop
 | 0,a,n,es,ss=>∃ r,PlaceOf n k r∧ss=[⟨a,n,r⟩]
 | h+1,a,n,es,ss=>∃ (r:Nat) (parts:List (Nat × (NodeD × List EntD))) (x:Nat × (NodeD × List EntD)) (ss':List StepD),PlaceOf n k r∧n.ds=parts.map (fun x=>kidI x.1)∧n.ks=parts.map (fun x=>leastK x.2.1)∧(∀ x ∈ parts,rd x.1 x.2.1∧Tre rd h x.2.1 x.2.2∧1≤x.2.2.length)∧es=parts.flatMap (fun x=>x.2.2)∧parts[r]?=some x∧Down rd k h x.1 x.2.1 x.2.2 ss'∧ss=⟨a,n,r⟩ :: ss'
theorem Down.len {rd:Nat→NodeD→Prop} {k:KeyD}:∀ {h a:Nat} {n:NodeD} {es:List EntD} {ss:List StepD},Down rd k h a n es ss→ss.length=h+1
 | 0,_,_,_,_,⟨_,_,e⟩=>by rw [e];rfl
 | h+1,_,_,_,_,⟨_,_,_,ss',_,_,_,_,_,_,hd,e⟩=>by rw [e,List.length_cons,hd.len]
theorem placeOf_lt {n:NodeD} {k:KeyD} {r:Nat} (h:PlaceOf n k r) (hl:n.leaf=false) (h1:1≤n.ks.length):r<n.ks.length:=by
 unfold PlaceOf at h
 rw [hl,if_neg (by simp)] at h
 rcases h.at_ with h2 | ⟨x,h2,_⟩
 ·omega
 ·exact (List.getElem?_eq_some_iff.1 h2).1
def OnDown (rd:Nat→NodeD→Prop) (k:KeyD) (H A:Nat) (NN:NodeD) (ES:List EntD) (pre:List StepD) (h a:Nat) (n:NodeD) (es:List EntD):Prop :=
 rd a n∧Tre rd h n es∧1≤es.length∧∀ ss,Down rd k h a n es ss→Down rd k H A NN ES (pre ++ ss)
theorem OnDown.start {rd:Nat→NodeD→Prop} {k:KeyD} {h a:Nat} {n:NodeD} {es:List EntD} (h1:rd a n) (h2:Tre rd h n es) (h3:1≤es.length):OnDown rd k h a n es [] h a n es:=⟨h1,h2,h3,fun ss hs=>hs⟩
theorem OnDown.stop {rd:Nat→NodeD→Prop} {k:KeyD} {H A a:Nat} {NN n:NodeD} {ES es:List EntD} {pre:List StepD} (h:OnDown rd k H A NN ES pre 0 a n es) {r:Nat} (hp:PlaceOf n k r):Down rd k H A NN ES (pre ++ [⟨a,n,r⟩]):=h.2.2.2 _ ⟨r,hp,rfl⟩
theorem OnDown.next {rd:Nat→NodeD→Prop} {k:KeyD} {H A h a:Nat} {NN n:NodeD} {ES es:List EntD} {pre:List StepD} (hd:OnDown rd k H A NN ES pre (h+1) a n es) {r:Nat} (hp:PlaceOf n k r):∃ x:Nat × (NodeD × List EntD),n.ds[r]?=some (kidI x.1)∧OnDown rd k H A NN ES (pre ++ [⟨a,n,r⟩]) h x.1 x.2.1 x.2.2:=by
 obtain ⟨h1,⟨l1,l2,parts,e1,e2,e3,e4,e5⟩,h3,h4⟩:=hd
 have hr:r<parts.length:=by
  have:=placeOf_lt hp l1 (by rw [e2,List.length_map];exact e5)
  rw [e2,List.length_map] at this
  exact this
 have hx:=List.getElem?_eq_getElem hr
 refine ⟨parts[r],?_,?_⟩
 ·rw [e1,List.getElem?_map,hx]
  rfl
 ·have hm:=e3 parts[r] (List.getElem_mem hr)
  refine ⟨hm.1,hm.2.1,hm.2.2,fun ss hs=>?_⟩
  rw [List.append_assoc]
  exact h4 _ ⟨r,parts,parts[r],ss,hp,e1,e2,e3,e4,hx,hs,rfl⟩
theorem Tre.leaf {rd:Nat→NodeD→Prop} {n:NodeD} {es:List EntD}:∀ {h:Nat},Tre rd h n es→n.leaf=decide (h=0)
 | 0,h=>h.1
 | h+1,hh=>by rw [hh.1];simp
end Go.Proofs.YtgkddhncfaeidaaGreat
namespace Go.Proofs.YtgkddhncfaeidaaGreat
open Go.RowKit CrcM PageM
theorem HasTy.shift {w:World} {A:Option Addr} {T:TypeId} (h:HasTy w A T) (k:Nat):HasTy w (some ⟨aB A,aO A+k,none⟩) T:=by
 obtain ⟨b,off,cs,fr,rfl,hb⟩:=h
 exact ⟨b,off+k,cs,fr,rfl,hb⟩
theorem leafPart_T {w:World} {n:NodeD} {l:NdL} (h:NodeT w n l) (x:Nat × Nat) (hx:x.2≤maxLen):NodeT w (leafPart n.es l.EA x).1 (leafPart n.es l.EA x).2:=by
 by_cases h0:n.es=[]
 ·have e:(n.es.drop x.1).take x.2=[]:=by rw [h0];simp
  exact { at_:={ e:=fun hne=>absurd e hne,k:=fun hne=>absurd rfl hne,d:=fun hne=>absurd rfl hne,ec:=by show ((n.es.drop x.1).take x.2).length≤x.2;rw [List.length_take];omega,kc:=Nat.le_refl _,dc:=Nat.le_refl _,em:=hx,km:=Nat.zero_le _,dm:=Nat.zero_le _ },te:=fun hne=>absurd e hne,tk:=fun hne=>absurd rfl hne,td:=fun hne=>absurd rfl hne }
 ·have ha:=h.at_.e.addr (List.length_pos_iff.2 h0)
  have he:=h.at_.e
  rw [ha] at he
  exact { at_:={ e:=(he.drop x.1).take x.2,k:=fun hne=>absurd rfl hne,d:=fun hne=>absurd rfl hne,ec:=by show ((n.es.drop x.1).take x.2).length≤x.2;rw [List.length_take];omega,kc:=Nat.le_refl _,dc:=Nat.le_refl _,em:=hx,km:=Nat.zero_le _,dm:=Nat.zero_le _ },te:=fun _=>(h.te h0).shift _,tk:=fun hne=>absurd rfl hne,td:=fun hne=>absurd rfl hne }
theorem innerPart_T {w:World} {n:NodeD} {l:NdL} (h:NodeT w n l) (hk:n.ks.length=n.ds.length) (x:Nat × Nat) (hx:x.1+x.2≤n.ds.length):NodeT w (innerPart n l x).1 (innerPart n l x).2:=by
 have lk:((n.ks.drop x.1).take x.2).length=x.2:=by rw [List.length_take,List.length_drop];omega
 have ld:((n.ds.drop x.1).take x.2).length=x.2:=by rw [List.length_take,List.length_drop];omega
 have c1:=h.at_.kc
 have c2:=h.at_.dc
 have m1:=h.at_.km
 have m2:=h.at_.dm
 have kc:((n.ks.drop x.1).take x.2).length≤l.kc - x.1:=by rw [lk];omega
 have dc:((n.ds.drop x.1).take x.2).length≤l.dc - x.1:=by rw [ld];omega
 have km:l.kc - x.1≤maxLen:=by omega
 have dm:l.dc - x.1≤maxLen:=by omega
 by_cases h0:n.ds=[]
 ·have h1:n.ks=[]:=List.length_eq_zero_iff.1 (by rw [hk,h0];rfl)
  have e:(n.ks.drop x.1).take x.2=[]:=by rw [h1];simp
  have e2:(n.ds.drop x.1).take x.2=[]:=by rw [h0];simp
  exact { at_:={ e:=fun hne=>absurd rfl hne,k:=fun hne=>absurd e hne,d:=fun hne=>absurd e2 hne,ec:=Nat.le_refl _,kc:=kc,dc:=dc,em:=Nat.zero_le _,km:=km,dm:=dm },te:=fun hne=>absurd rfl hne,tk:=fun hne=>absurd e hne,td:=fun hne=>absurd e2 hne }
 ·have h1:n.ks≠[]:=fun e=>h0 (List.length_eq_zero_iff.1 (by rw [← hk,e];rfl))
  have hak:=h.at_.k.addr (List.length_pos_iff.2 h1)
  have had:=h.at_.d.addr (List.length_pos_iff.2 h0)
  have hK:=h.at_.k
  have hD:=h.at_.d
  rw [hak] at hK
  rw [had] at hD
  exact { at_:={ e:=fun hne=>absurd rfl hne,k:=(hK.drop x.1).take x.2,d:=(hD.drop x.1).take x.2,ec:=Nat.le_refl _,kc:=kc,dc:=dc,em:=Nat.zero_le _,km:=km,dm:=dm },te:=fun hne=>absurd rfl hne,tk:=fun _=>(h.tk h1).shift _,td:=fun _=>(h.td h0).shift _ }
def LvlT (w:World) (pr:List (NodeD × NdL)):Prop:=∀ x ∈ pr,NodeT w x.1 x.2∧1≤x.1.size∧(x.1.leaf=false→x.1.ks.length=x.1.ds.length)
theorem chs_pos {m len k:Nat} (hm:0<m) (hk:k≤(len+(m - 1)) / m):∀ x ∈ chs m len k,1≤x.2∧x.2≤m:=by
 intro x hx
 simp only [chs,List.mem_map,List.mem_range] at hx
 obtain ⟨i,hi,rfl⟩:=hx
 dsimp only
 have h1:i+1≤(len+(m - 1)) / m:=by omega
 rw [Nat.le_div_iff_mul_le hm,Nat.add_mul,Nat.mul_comm i m] at h1
 omega
theorem fillP_T {w:World} {n:NodeD} {l:NdL} (h:NodeT w n l) (hk:n.ks.length=n.ds.length):LvlT w (fillP n l):=by
 intro y hy
 rw [fillP,List.mem_append] at hy
 rcases hy with hy | hy
 ·obtain ⟨x,hx,rfl⟩:=List.mem_map.1 hy
  have h1:=chs_pos (m:=7) (by decide) (Nat.le_refl _) x hx
  have h2:=chs_in' (m:=7) (by decide) (Nat.le_refl _) x hx
  refine ⟨leafPart_T h x (by unfold maxLen;omega),?_,fun e=>by cases e⟩
  show 1≤((n.es.drop x.1).take x.2).length
  rw [List.length_take,List.length_drop]
  omega
 ·obtain ⟨x,hx,rfl⟩:=List.mem_map.1 hy
  have h1:=chs_pos (m:=16) (by decide) (Nat.le_refl _) x hx
  have h2:=chs_in' (m:=16) (by decide) (Nat.le_refl _) x hx
  refine ⟨innerPart_T h hk x h2,?_,fun _=>?_⟩
  ·show 1≤((n.ds.drop x.1).take x.2).length
   rw [List.length_take,List.length_drop]
   omega
  ·show ((n.ks.drop x.1).take x.2).length=((n.ds.drop x.1).take x.2).length
   rw [List.length_take,List.length_drop,List.length_take,List.length_drop,hk]
theorem LvlT.below {w w1:World} {pr:List (NodeD × NdL)} (h:LvlT w pr) (hb:Below w.heap.size w w1):LvlT w1 pr:=fun x hx=>⟨(h x hx).1.below hb,(h x hx).2⟩
theorem ChAt.below {w w1:World} {A:Option Addr} {pr:List (NodeD × NdL)} (h:ChAt w A pr) (hb:Below w.heap.size w w1):ChAt w1 A pr:=fun hne=>by
 obtain ⟨b,cs,hA,hc,hi⟩:=h hne
 exact ⟨b,cs,hA,row_stays hc hb,hi⟩
end Go.Proofs.YtgkddhncfaeidaaGreat
