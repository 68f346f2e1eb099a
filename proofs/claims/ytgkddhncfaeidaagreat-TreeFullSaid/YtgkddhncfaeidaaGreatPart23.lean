/- Squeezed: the texts as they are written lie in wip/tpl. -/
import Derived.Test.YtgkddhncfaeidaaGreatPart22
import Derived.Test.YtgkddhncfaeidaaGreatPart10
import Derived.Test.YtgkddhncfaeidaaGreatPart20
import Derived.Test.YtgkddhncfaeidaaGreatPart21
set_option maxRecDepth 100000
set_option maxHeartbeats 8000000
set_option linter.unusedSimpArgs false
set_option linter.unusedVariables false
namespace Go.Proofs.YtgkddhncfaeidaaGreat
open Go.RowKit Go.ChangeShapes Go.WideShapes Go.ChangeAt CrcM PageM
def lvl (ps:List NodeD) (qs:List Nat):List NodeD:=(chs 16 qs.length ((qs.length+15) / 16)).map fun x=>⟨false,[],((ps.map leastK).drop x.1).take x.2,((qs.map kidI).drop x.1).take x.2⟩
theorem lvl_length (ps:List NodeD) (qs:List Nat):(lvl ps qs).length=(qs.length+15) / 16:=by rw [lvl,List.length_map,chs_length]
inductive Tops:List NodeD→Nat→List (Nat × NodeD)→NodeD→Nat→Prop
 | stop (n:NodeD) (h:Nat):Tops [n] h [] n h
 | step (ps:List NodeD) (h:Nat) (qs:List Nat) (L:List (Nat × NodeD)) (n:NodeD) (h':Nat):2≤ps.length→qs.length=ps.length→h<5→Tops (lvl ps qs) (h+1) L n h'→Tops ps h (qs.zip ps ++ L) n h'
theorem Tops.one {n:NodeD} {ps:List NodeD} {h:Nat} {L:List (Nat × NodeD)} {h':Nat} (t:Tops ps h L n h') (h1:¬ 2≤ps.length):ps=[n]∧L=[]∧h'=h:=by
 cases t with
 | stop=>exact ⟨rfl,rfl,rfl⟩
 | step _ _ qs L _ _ h2=>omega
theorem Tops.more {n:NodeD} {ps:List NodeD} {h:Nat} {L:List (Nat × NodeD)} {h':Nat} (t:Tops ps h L n h') (h1:2≤ps.length):∃ qs L',qs.length=ps.length∧h<5∧L=qs.zip ps ++ L'∧Tops (lvl ps qs) (h+1) L' n h':=by
 cases t with
 | stop=>simp at h1
 | step _ _ qs L _ _ h2 h3 h4 h5=>exact ⟨_,_,h3,h4,rfl,h5⟩
theorem Tops.bound {ps:List NodeD} {h:Nat} {L:List (Nat × NodeD)} {n:NodeD} {h':Nat} (t:Tops ps h L n h'):ps.length≤L.length+1:=by
 cases t with
 | stop=>simp
 | step _ _ qs L _ _ h1 h2 h3 =>
   rw [List.length_append,List.length_zip]
   omega
def strip (x:Nat × (NodeD × NdL)):Nat × NodeD:=(x.1,x.2.1)
theorem strip_zip (qs:List Nat) (pr:List (NodeD × NdL)):(qs.zip pr).map strip=qs.zip (pr.map Prod.fst):=by
 induction qs generalizing pr with
 | nil=>rfl
 | cons a t ih =>
   cases pr with
   | nil=>rfl
   | cons x s=>simp [strip,ih]
theorem fillP_lvl (n:NodeD) (l:NdL) (ps:List NodeD) (qs:List Nat) (he:n.es=[]) (hk:n.ks=ps.map leastK) (hd:n.ds=qs.map kidI):(fillP n l).map Prod.fst=lvl ps qs:=by
 have h0:(chs 7 n.es.length ((n.es.length+6) / 7))=[]:=by rw [he];rfl
 rw [fillP,h0,List.map_nil,List.nil_append,List.map_map,lvl,hd,List.length_map]
 refine List.map_congr_left (fun x _=>?_)
 simp [innerPart,hk,hd]
def vlen:Value→Nat
 | .slice _ n _=>n
 | _=>0
structure TpS (w wr:World) (gc gv p B0:Nat) (U V:List Bool) (L:List (Nat × (NodeD × NdL))) (Lr:List (Nat × NodeD)) (a:Nat) (n:NodeD) (h':Nat) (pr:List (NodeD × NdL)) (A:Option Addr) (h:Nat) (lv:Value) (qd:List Nat) (Lx:List (Nat × (NodeD × NdL))) (Lm:List (Nat × NodeD)):Prop where
 chg:ChgS wr gc gv p B0 (marks U qd) V lv (L ++ Lx)
 pik:Picks p V U (qd ++ (Lm.map Prod.fst ++ [a]))
 all:Lr=Lx.map strip ++ Lm
 qda:qd=Lx.map Prod.fst
 top:Tops (pr.map Prod.fst) h Lm n h'
 row:ChAt wr A pr
 lvt:LvlT wr pr
 nod:∀ x ∈ L ++ Lx,NodeT wr x.2.1 x.2.2
 out:OutT gc B0 151 w wr
 res:∃ Z,wr.heap[w.heap.size]?=some (.cells Z 43 (0,0))∧Z.size=2
theorem top_yes (gc gv p B0:Nat) (U V:List Bool) (lv:Value) (L:List (Nat × (NodeD × NdL))) (hU:U.length=512) (hV:V.length=512) (okU:okM (p:Int) U) (okV:okM (p:Int) V) (pr:List (NodeD × NdL)) (A:Option Addr) (c h:Nat) (Lr:List (Nat × NodeD)) (n:NodeD) (h' a:Nat) (ht:Tops (pr.map Prod.fst) h Lr n h') (hn:n.leaf=false→2≤n.ds.length) (hp:Picks p V U (Lr.map Prod.fst ++ [a])) (hL:L.length+Lr.length+1≤1000) (h5:h'≤5) (w:World)
 (hc:ChgS w gc gv p B0 U V lv L) (hnt:∀ x ∈ L,NodeT w x.2.1 x.2.2) (hA:ChAt w A pr) (hl:LvlT w pr) :
 Calls Tryz.prog 30 #[.pointer (some ⟨gc,0,none⟩),.slice A pr.length c,.int .i64 (h:Int)] w fun e w'=>e=.returned (.tuple #[.agg #[.int .i64 (a:Int),.int .i64 (h':Int)],.int .i64 0]) ∧
  (∃ lv' Lx,ChgS w' gc gv p B0 (marks U (Lr.map Prod.fst ++ [a])) V lv' (L ++ Lx)∧Lx.map strip=Lr ++ [(a,n)]∧∀ x ∈ L ++ Lx,NodeT w' x.2.1 x.2.2)∧OutT gc B0 151 w w':=by
 have HC:=Lib.hid hc
 have HU:=Lib.hid hU
 have HV:=Lib.hid hV
 have HOU:=Lib.hid okU
 have HOV:=Lib.hid okV
 have HT:=Lib.hid ht
 have HNN:=Lib.hid hn
 have HP:=Lib.hid hp
 have HLL:=Lib.hid hL
 have HNT:=Lib.hid hnt
 have HA:=Lib.hid hA
 have HL:=Lib.hid hl
 have H5:=Lib.hid h5
 clear hc hU hV okU okV ht hn hp hL hnt hA hl h5
 obtain ⟨m,hm⟩:∃ m,pr.length=m:=⟨_,rfl⟩
 have HM:=Lib.hid hm
 rw [hm]
 clear hm
 go_enter Tryz.func30,Tryz.ntmps30
 go_upto_region 1 with fail
 obtain ⟨w1,hw1⟩:∃ w1,w1=w.alloc (.cells #[.int .i64 0,.int .i64 0] 43):=⟨_,rfl⟩
 have B1:=Lib.hid (alloc_bel hw1)
 have G1:Hid (w1.heap[w.heap.size]?=some (.cells #[.int .i64 0,.int .i64 0] 43 (0,0))):=Lib.hid (by rw [hw1];exact heap_alloc_new _ _)
 rw [← hw1]
 clear hw1
 have HST:Hid (∃ lv qd Lx Lm,TpS w w1 gc gv p B0 U V L Lr a n h' pr A h lv qd Lx Lm):=Lib.hid ⟨lv,[],[],Lr,{ chg:=by simpa [marks] using HC.out.below B1.out,pik:=HP.out,all:=rfl,qda:=rfl,top:=HT.out,row:=HA.out.below B1.out,lvt:=HL.out.below B1.out,nod:=by simpa using fun x hx hx2 hx3=>(HNT.out _ hx3).below B1.out,out:=OutT.of_below B1.out,res:=⟨_,G1.out,rfl⟩ }⟩
 clear G1 B1
 go_loopw [1,2] (fun vv hv wr=>∃ (pr:List (NodeD × NdL)) (A:Option Addr) (c m h:Nat),vv=.slice A m c∧hv=.int .i64 (h:Int)∧Hid (pr.length=m∧∃ lv qd Lx Lm,TpS w wr gc gv p B0 U V L Lr a n h' pr A h lv qd Lx Lm))
  (fun vv _ _=>vlen vv)
 case atStart=>exact ⟨pr,A,c,m,h,rfl,rfl,Lib.hid ⟨HM.out,HST.out⟩⟩
 case round =>
  clear HST HM
  obtain ⟨pr,A,c,m,h,rfl,rfl,HR⟩:=hrel
  obtain ⟨hm,lv,qd,Lx,Lm,hs⟩:=HR.out
  have HM:=Lib.hid hm
  have HS:=Lib.hid hs
  have HM1:Hid (m≤1000):=Lib.hid (by have h1:=hs.top.bound;have h2:=congrArg List.length hs.all;rw [List.length_map] at h1;rw [List.length_append] at h2;have:=HLL.out;omega)
  clear HR hs hm
  by_cases hlt:2≤m
  ·obtain ⟨qs,L',hq,hh5,hLm,ht⟩:=HS.out.top.more (by rw [List.length_map,HM.out];exact hlt)
   have HQ:Hid (qs.length=m):=Lib.hid (by rw [hq,List.length_map];exact HM.out)
   have HLM:=Lib.hid hLm
   have HT2:=Lib.hid ht
   have hne:decide ((m:Int) > 1)=true:=by simp;omega
   have hne5:((h:Int) == 5)=false:=by simp;omega
   clear hq hLm ht
   have HF:Hid (Lm.map Prod.fst=qs ++ L'.map Prod.fst):=Lib.hid (by
    rw [HLM.out,List.map_append,List.map_fst_zip (by rw [HQ.out,List.length_map,HM.out];exact Nat.le_refl _)])
   have HP1:Hid (Picks p V U qd∧Picks p V (marks U qd) qs):=Lib.hid (by
    have h1:=HS.out.pik.append
    have h2:=h1.2
    rw [HF.out,List.append_assoc] at h2
    exact ⟨h1.1,h2.append.1⟩)
   have HUQ:Hid ((marks U qd).length=512):=Lib.hid (by rw [length_marks];exact HU.out)
   have HCN:Hid ((L ++ Lx).length+m≤1000):=Lib.hid (by
    have h1:=HS.out.top.bound
    have h2:=congrArg List.length HS.out.all
    have h3:=congrArg List.length HLM.out
    rw [List.length_append,List.length_zip,List.length_map,HQ.out,HM.out] at h3
    rw [List.length_append,List.length_map] at h2
    rw [List.length_append]
    have:=HLL.out
    omega)
   have HAB:=Lib.hid (above_yes gc gv p B0 (marks U qd) V lv (L ++ Lx) HUQ.out HV.out (okM_marks HP1.out.1 HOU.out HU.out) HOV.out pr qs (by rw [HQ.out,HM.out]) HP1.out.2 (by have:=HCN.out;rw [HM.out];omega) A c wr HS.out.chg HS.out.row HS.out.lvt)
   rw [HM.out] at HAB
   go_upto_region 7 with (go_at_call 51;refine HAB.out.mono ?_;rintro e w3 ⟨l',lv3,rfl,hn3,hc3,ho3⟩;have N3:=Lib.hid hn3;have C3:=Lib.hid hc3;have O3:=Lib.hid ho3;clear hn3 hc3 ho3)
   obtain ⟨X,hX⟩:∃ X:NodeD,X=⟨false,[],pr.map fun x=>leastK x.1,qs.map kidI⟩:=⟨_,rfl⟩
   obtain ⟨lX,hlX⟩:∃ lX:NdL,lX={ l' with EA:=none,ec:=0 }:=⟨_,rfl⟩
   rw [← hX,← hlX] at N3
   have HXE:Hid (X.es=[]∧X.ks=(pr.map Prod.fst).map leastK∧X.ds=qs.map kidI∧X.ks.length=m∧X.ds.length=m):=Lib.hid (by
    rw [hX]
    exact ⟨rfl,by rw [List.map_map];rfl,rfl,by rw [List.length_map];exact HM.out,by rw [List.length_map];exact HQ.out⟩)
   have HFI:Hid (∀ W,NodeAt W X lX→Calls Tryz.prog 31 #[.agg #[.bool false,.slice none 0 0,.slice l'.KA m l'.kc,.slice l'.DA m l'.dc]] W fun e w' =>
    (∃ A c,e=.returned (.slice A (fillP X lX).length c)∧w'.ownsRow W.heap.size 86 4 (.slice A (fillP X lX).length c) (fillP X lX).length ((fillP X lX).flatMap ndP))∧Below W.heap.size W w'):=Lib.hid (fun W hW=>by
    have h1:=filled_any X lX (by rw [HXE.out.2.2.2.1,HXE.out.2.2.2.2]) (by rw [HXE.out.1];simp) (by rw [HXE.out.2.2.2.2];have:=HM1.out;omega) W hW
    rw [HXE.out.2.2.2.1,HXE.out.2.2.2.2,HXE.out.1] at h1
    rw [hX,hlX] at h1 ⊢
    exact h1)
   have HPL:Hid ((fillP X lX).map Prod.fst=lvl (pr.map Prod.fst) qs):=Lib.hid (fillP_lvl X lX _ _ HXE.out.1 HXE.out.2.1 HXE.out.2.2.1)
   have HTY:Hid (∀ W,NodeT W X lX→LvlT W (fillP X lX)):=Lib.hid (fun W hW=>fillP_T hW (by rw [HXE.out.2.2.2.1,HXE.out.2.2.2.2]))
   obtain ⟨pr2,hpr2⟩:∃ pr2,pr2=fillP X lX:=⟨_,rfl⟩
   rw [← hpr2] at HFI HPL HTY
   clear hpr2 hX hlX
   obtain ⟨m2,hm2⟩:∃ m2,pr2.length=m2:=⟨_,rfl⟩
   have HM2:=Lib.hid hm2
   have HLT2:Hid (m2<m):=Lib.hid (by
    have h1:=congrArg List.length HPL.out
    rw [List.length_map,lvl_length,HQ.out,hm2] at h1
    omega)
   rw [hm2] at HFI
   clear hm2
   obtain ⟨wb,hwb⟩:∃ wb,wb=w3.alloc (.cells #[.bool false,.slice none 0 0,.slice l'.KA m l'.kc,.slice l'.DA m l'.dc] 86):=⟨_,rfl⟩
   have GB:Hid (wb.heap[w3.heap.size]?=some (.cells #[.bool false,.slice none 0 0,.slice l'.KA m l'.kc,.slice l'.DA m l'.dc] 86 (0,0))):=Lib.hid (by rw [hwb];exact heap_alloc_new _ _)
   have BB:=Lib.hid (alloc_bel hwb)
   have NB:=Lib.hid (N3.out.below BB.out)
   rw [← hwb]
   clear hwb
   go_wp2_with (first
    | (refine wpList_load_row rfl 86 (.tmp 8) rfl w3.heap.size rfl 86 _ (0,0) _ GB.out Tryz.underlying86 rfl (by kernel_rfl) ?_)
    | (go_at_call 31;refine (HFI.out _ NB.out.at_).mono ?_;rintro e w5 ⟨⟨A2,c2,rfl,hr5⟩,hb5⟩;have R5:=Lib.hid hr5;have B5:=Lib.hid (BB.out.trans (hb5.mono BB.out.size));clear hr5 hb5))
   have HEND:Hid (∃ lv qd Lx Lm,TpS w w5 gc gv p B0 U V L Lr a n h' pr2 A2 (h+1) lv qd Lx Lm):=Lib.hid (by
    have hz:=strip_zip qs pr
    have hqf:(qs.zip pr).map Prod.fst=qs:=List.map_fst_zip (by rw [HQ.out,HM.out];exact Nat.le_refl _)
    refine ⟨lv3,qd ++ qs,Lx ++ qs.zip pr,L',{ chg:=?_,pik:=?_,all:=?_,qda:=?_,top:=?_,row:=?_,lvt:=?_,nod:=?_,out:=?_,res:=?_ }⟩
    ·rw [marks_append,← List.append_assoc]
     exact C3.out.below B5.out
    ·have h1:=HS.out.pik
     rw [HF.out,List.append_assoc] at h1
     rw [List.append_assoc]
     exact h1
    ·rw [HS.out.all,HLM.out,List.map_append,hz,List.append_assoc]
    ·rw [List.map_append,hqf,← HS.out.qda]
    ·rw [HPL.out]
     exact HT2.out
    ·refine ChAt.of_row (base:=wb.heap.size) (c:=c2) ?_
     rw [HM2.out]
     exact R5.out
    ·exact HTY.out _ (N3.out.below B5.out)
    ·intro x hx
     rw [← List.append_assoc,List.mem_append] at hx
     rcases hx with hx | hx
     ·exact (((HS.out.nod x hx).outT O3.out HS.out.chg.chg)).below B5.out
     ·have hx2:x.2 ∈ pr:=(List.of_mem_zip hx).2
      exact ((HS.out.lvt x.2 hx2).1.outT O3.out HS.out.chg.chg).below B5.out
    ·exact (HS.out.out.trans O3.out).trans (OutT.of_below B5.out)
    ·obtain ⟨Z,hZ,hZs⟩:=HS.out.res
     exact ⟨Z,row_stays ((O3.out.typed hZ (by decide) (chg_ne_box HS.out.chg hZ (by decide))).trans hZ) B5.out,hZs⟩)
   have hhw:wrap64 ((h:Int)+1)=(h:Int)+1:=by unfold wrap64;omega
   clear R5 B5 BB NB GB HPL HTY HFI HXE N3 C3 O3 HAB HCN HUQ HP1 HF HT2 HLM HQ HS HM1
   go_roundw
   case rel=>exact ⟨pr2,A2,c2,m2,h+1,rfl,by go_num,Lib.hid ⟨HM2.out,HEND.out⟩⟩
   case measure=>exact HLT2.out
  ·obtain ⟨hp1,hLm0,hhh⟩:=HS.out.top.one (by rw [List.length_map,HM.out];exact hlt)
   have hml:=congrArg List.length hp1
   rw [List.length_map,HM.out] at hml
   obtain rfl:m=1:=hml
   obtain ⟨x,rfl⟩:∃ x,pr=[x]:=List.length_eq_one_iff.1 HM.out
   have hxn:x.1=n:=by simpa using hp1
   have HXN:=Lib.hid hxn
   have HLM0:=Lib.hid hLm0
   have HHH:=Lib.hid hhh
   have HXT:=Lib.hid (HS.out.lvt x (by simp))
   clear hp1 hLm0 hxn hhh
   obtain ⟨b,cs,hAb,hbc,hcs⟩:=HS.out.row (by simp)
   subst hAb
   obtain ⟨lf,hlf⟩:∃ lf,x.1.leaf=lf:=⟨_,rfl⟩
   have HLF:=Lib.hid hlf
   have q:=fun j u (hu:(ndP x)[j]?=some u)=>nd_cell hbc j u (hcs j u (by simpa using hu))
   have e0:=q 0 _ rfl
   have e1:=q 1 _ rfl
   have e2:=q 2 _ rfl
   have e3:=q 3 _ rfl
   rw [hlf] at e0
   have HLA:Hid (∀ W,ChgS W gc gv p B0 (marks U qd) V lv (L ++ Lx)→Calls Tryz.prog 54 #[.pointer (some ⟨gc,0,none⟩),.agg #[.bool lf,.slice x.2.EA x.1.es.length x.2.ec,.slice x.2.KA x.1.ks.length x.2.kc,.slice x.2.DA x.1.ds.length x.2.dc]] W fun e w'=>e=.returned (.tuple #[.int .i64 (a:Int),.int .i64 0])∧(∃ lv',ChgS w' gc gv p B0 (marks U (qd ++ [a])) V lv' (L ++ (Lx ++ [(a,x)])))∧OutT gc B0 151 W w'):=Lib.hid (fun W hW=>by
    have h1:=HS.out.pik
    rw [HLM0.out] at h1
    have h2:=h1.append
    have h3:=congrArg List.length HS.out.all
    rw [HLM0.out,List.append_nil,List.length_map] at h3
    rw [marks_snoc,← List.append_assoc,← HLF.out]
    exact lay_yes gc gv p B0 _ V lv _ (by rw [length_marks];exact HU.out) HV.out (okM_marks h2.1 HOU.out HU.out) HOV.out a h2.2.1.1 h2.2.1.2 x (by rw [List.length_append];have:=HLL.out;omega) W hW)
   have HSZ:Hid (lf=false→∃ sz:Nat,2≤sz∧∀ W,Calls Tryz.prog 52 #[.agg #[.bool false,.slice x.2.EA x.1.es.length x.2.ec,.slice x.2.KA x.1.ks.length x.2.kc,.slice x.2.DA x.1.ds.length x.2.dc]] W fun e w'=>e=.returned (.int .i64 (sz:Int))∧Below W.heap.size W w'):=Lib.hid (fun hl=>⟨x.1.ds.length,HXN.out ▸ HNN.out (by rw [← HXN.out,HLF.out,hl]),fun W=>size_inner _ _ _ _ _ _ _ _ _ W⟩)
   obtain ⟨Z,hZ,hZs⟩:=HS.out.res
   have HZ:=Lib.hid hZ
   have HZS:=Lib.hid hZs
   clear hbc hcs q hlf hZ hZs
   go_upto_region 12 with fail
   obtain ⟨wa,hwa⟩:∃ wa,wa=wr.alloc (.cells #[.bool lf,.slice x.2.EA x.1.es.length x.2.ec,.slice x.2.KA x.1.ks.length x.2.kc,.slice x.2.DA x.1.ds.length x.2.dc] 86):=⟨_,rfl⟩
   have GA:Hid (wa.heap[wr.heap.size]?=some (.cells #[.bool lf,.slice x.2.EA x.1.es.length x.2.ec,.slice x.2.KA x.1.ks.length x.2.kc,.slice x.2.DA x.1.ds.length x.2.dc] 86 (0,0))):=Lib.hid (by rw [hwa];exact heap_alloc_new _ _)
   have BA:=Lib.hid (alloc_bel hwa)
   have CA:=Lib.hid (HS.out.chg.below BA.out)
   have ZA:=Lib.hid (row_stays HZ.out BA.out)
   rw [← hwa]
   clear hwa e0 e1 e2 e3
   go_loopw [2] (fun hv w5=>hv=.int .i64 (h:Int)∧wa=w5) (fun _ _=>0)
   case atStart=>exact ⟨rfl,rfl⟩
   case round =>
    obtain ⟨rfl,rfl⟩:=hrel
    have k0:=nd_cell GA.out 0 _ rfl
    have k1:=nd_cell GA.out 1 (.slice x.2.EA x.1.es.length x.2.ec) rfl
    have k2:=nd_cell GA.out 2 (.slice x.2.KA x.1.ks.length x.2.kc) rfl
    have k3:=nd_cell GA.out 3 (.slice x.2.DA x.1.ds.length x.2.dc) rfl
    simp only [List.getElem_toArray,List.getElem_cons_zero] at k0
    cases lf
    ·obtain ⟨sz,hsz,hc⟩:=HSZ.out rfl
     have HSC:=Lib.hid hc
     have hs1:((sz:Int) == 1)=false:=by simp;omega
     clear hc
     go_upto_region 18 with (first
      | (refine wpList_load_row rfl 86 (.tmp 10) rfl wr.heap.size rfl 86 _ (0,0) _ GA.out Tryz.underlying86 rfl (by kernel_rfl) ?_)
      | (go_at_call 52;refine (HSC.out _).mono ?_;rintro e w6 ⟨rfl,hb6⟩;have B6:=Lib.hid hb6;clear hb6))
     have G6:=Lib.hid (row_stays GA.out B6.out)
     have C6:=Lib.hid (CA.out.below B6.out)
     have Z6:=Lib.hid (row_stays ZA.out B6.out)
     have OW:Hid (OutT gc B0 151 w w6):=Lib.hid ((HS.out.out.trans (OutT.of_below BA.out)).trans (OutT.of_below B6.out))
     have BW:=Lib.hid (BA.out.trans (B6.out.mono BA.out.size))
     clear GA BA CA ZA HSZ k0 k1 k2 k3
     go_upto_region 21 with (first
      | (refine wpList_load_row rfl 86 (.tmp 10) rfl wr.heap.size rfl 86 _ (0,0) _ G6.out Tryz.underlying86 rfl (by kernel_rfl) ?_)
      | (go_at_call 54;refine (HLA.out _ C6.out).mono ?_;rintro e w7 ⟨rfl,⟨lv7,hc7⟩,ho7⟩;have C7:=Lib.hid hc7;have O7:=Lib.hid ho7;clear hc7 ho7))
     have Z7:=Lib.hid ((O7.out.typed Z6.out (by decide) (chg_ne_box C6.out Z6.out (by decide))).trans Z6.out)
     go_wp2_with (refine wpList_store_row rfl 43 (.tmp 6) (.tmp 82) rfl w.heap.size #[.int .i64 (a:Int),.int .i64 (h:Int)] rfl rfl 43 Z Z7.out (by kernel_rfl) HZS.out (by simp [Value.oneCell']) ?_)
     have KF:=Lib.hid (KeptNot.of_setRow Z7.out #[.int .i64 (a:Int),.int .i64 (h:Int)])
     refine bodyPost_ret (v:=.tuple #[.agg #[.int .i64 (a:Int),.int .i64 (h:Int)],.int .i64 0]) (results_cell_tmpB (p:=6) (u:=7) (ty:=43) rfl _ _ w.heap.size 43 _ (0,0) _ rfl (setRow_heap _ _ _ _ _ _ Z7.out) Tryz.underlying43 rfl (by kernel_rfl)) rfl ?_
     have hall:=HS.out.all
     rw [HLM0.out,List.append_nil] at hall
     have hqd:Lr.map Prod.fst=qd:=by rw [hall,HS.out.qda,List.map_map];rfl
     have hnode:∀ y l,NodeT wr y l→NodeT (w7.setRow w.heap.size #[.int .i64 (a:Int),.int .i64 (h:Int)]) y l:=fun y l hy=>KF.out.node ((hy.below BW.out).outT O7.out C6.out.chg) (by decide) (by decide) (by decide)
     refine ⟨by rw [HHH.out],⟨lv7,Lx ++ [(a,x)],?_,?_,?_⟩,?_⟩
     ·rw [hqd]
      exact KF.out.chg C7.out (by decide) (by decide)
     ·rw [List.map_append,← hall]
      simp [strip,HXN.out]
     ·intro y hy
      rw [← List.append_assoc,List.mem_append] at hy
      rcases hy with hy | hy
      ·exact hnode _ _ (HS.out.nod y hy)
      ·obtain rfl:y=(a,x):=by simpa using hy
       exact hnode _ _ HXT.out.1
     ·exact (OW.out.trans O7.out).thenNew (below_setRow (Below.refl _ _) (Nat.le_refl _) _)
    ·go_upto_region 18 with fail
     obtain ⟨w6,hw6⟩:∃ w6,w6=wa:=⟨_,rfl⟩
     have G6:Hid (w6.heap[wr.heap.size]?=some (.cells #[.bool true,.slice x.2.EA x.1.es.length x.2.ec,.slice x.2.KA x.1.ks.length x.2.kc,.slice x.2.DA x.1.ds.length x.2.dc] 86 (0,0))):=Lib.hid (by rw [hw6];exact GA.out)
     have C6:Hid (ChgS w6 gc gv p B0 (marks U qd) V lv (L ++ Lx)):=Lib.hid (by rw [hw6];exact CA.out)
     have Z6:Hid (w6.heap[w.heap.size]?=some (.cells Z 43 (0,0))):=Lib.hid (by rw [hw6];exact ZA.out)
     have OW:Hid (OutT gc B0 151 w w6):=Lib.hid (by rw [hw6];exact HS.out.out.trans (OutT.of_below BA.out))
     have BW:Hid (Below wr.heap.size wr w6):=Lib.hid (by rw [hw6];exact BA.out)
     rw [← hw6]
     clear hw6
     clear GA BA CA ZA HSZ k0 k1 k2 k3
     go_upto_region 21 with (first
      | (refine wpList_load_row rfl 86 (.tmp 10) rfl wr.heap.size rfl 86 _ (0,0) _ G6.out Tryz.underlying86 rfl (by kernel_rfl) ?_)
      | (go_at_call 54;refine (HLA.out _ C6.out).mono ?_;rintro e w7 ⟨rfl,⟨lv7,hc7⟩,ho7⟩;have C7:=Lib.hid hc7;have O7:=Lib.hid ho7;clear hc7 ho7))
     have Z7:=Lib.hid ((O7.out.typed Z6.out (by decide) (chg_ne_box C6.out Z6.out (by decide))).trans Z6.out)
     go_wp2_with (refine wpList_store_row rfl 43 (.tmp 6) (.tmp 82) rfl w.heap.size #[.int .i64 (a:Int),.int .i64 (h:Int)] rfl rfl 43 Z Z7.out (by kernel_rfl) HZS.out (by simp [Value.oneCell']) ?_)
     have KF:=Lib.hid (KeptNot.of_setRow Z7.out #[.int .i64 (a:Int),.int .i64 (h:Int)])
     refine bodyPost_ret (v:=.tuple #[.agg #[.int .i64 (a:Int),.int .i64 (h:Int)],.int .i64 0]) (results_cell_tmpB (p:=6) (u:=7) (ty:=43) rfl _ _ w.heap.size 43 _ (0,0) _ rfl (setRow_heap _ _ _ _ _ _ Z7.out) Tryz.underlying43 rfl (by kernel_rfl)) rfl ?_
     have hall:=HS.out.all
     rw [HLM0.out,List.append_nil] at hall
     have hqd:Lr.map Prod.fst=qd:=by rw [hall,HS.out.qda,List.map_map];rfl
     have hnode:∀ y l,NodeT wr y l→NodeT (w7.setRow w.heap.size #[.int .i64 (a:Int),.int .i64 (h:Int)]) y l:=fun y l hy=>KF.out.node ((hy.below BW.out).outT O7.out C6.out.chg) (by decide) (by decide) (by decide)
     refine ⟨by rw [HHH.out],⟨lv7,Lx ++ [(a,x)],?_,?_,?_⟩,?_⟩
     ·rw [hqd]
      exact KF.out.chg C7.out (by decide) (by decide)
     ·rw [List.map_append,← hall]
      simp [strip,HXN.out]
     ·intro y hy
      rw [← List.append_assoc,List.mem_append] at hy
      rcases hy with hy | hy
      ·exact hnode _ _ (HS.out.nod y hy)
      ·obtain rfl:y=(a,x):=by simpa using hy
       exact hnode _ _ HXT.out.1
     ·exact (OW.out.trans O7.out).thenNew (below_setRow (Below.refl _ _) (Nat.le_refl _) _)
end Go.Proofs.YtgkddhncfaeidaaGreat
namespace Go.Proofs.YtgkddhncfaeidaaGreat
open Go.RowKit CrcM PageM
def pageOf (nw:List UInt8) (a:Nat):List UInt8:=(nw.drop (256*a)).take 256
theorem rawN_four {nw bs:List UInt8} {a:Nat} (hb:bs.length=256):rawN nw (256*a) bs 4=nw.take (256*a) ++ bs ++ nw.drop (256*a+256):=by
 unfold rawN
 rw [show 64*4=256 from rfl,List.take_of_length_le (by omega:bs.length≤256)]
theorem page_same {nw bs:List UInt8} {a:Nat} (h:256*a+256≤nw.length) (hb:bs.length=256):pageOf (rawN nw (256*a) bs 4) a=bs:=by
 rw [rawN_four hb]
 unfold pageOf
 rw [List.append_assoc,List.drop_left' (by rw [List.length_take];omega)]
 exact List.take_left' hb
theorem page_other {nw bs:List UInt8} {a a':Nat} (h:256*a+256≤nw.length) (hb:bs.length=256) (hne:a'≠a):pageOf (rawN nw (256*a) bs 4) a'=pageOf nw a':=by
 rw [rawN_four hb]
 unfold pageOf
 have hl:(nw.take (256*a)).length=256*a:=by rw [List.length_take];omega
 rcases Nat.lt_or_ge a' a with h1 | h1
 ·rw [List.append_assoc,List.drop_append_of_le_length (by rw [hl];omega),List.take_append_of_le_length (by rw [List.length_drop,hl];omega),List.drop_take,List.take_take,Nat.min_eq_left (by omega)]
 ·have hl2:(nw.take (256*a) ++ bs).length=256*a+256:=by rw [List.length_append,hl,hb]
  rw [show 256*a'=(256*a+256)+(256*a' - (256*a+256)) by omega,← List.drop_drop,List.drop_left' hl2,List.drop_drop]
section
variable {w w':World} {B N g gs gn L cs cn:Nat} {rw:Value} {st nw:List UInt8} {ws:List (Nat × List UInt8)} {on:Bool} {left:Int}
theorem Dk.outer_below (h:Dk w B N g gs gn rw L cs cn st nw ws on left) (ho:OuterX (DkX g gn rw) w w'):Below B w w':=by
 have h1:=h.gB
 have h2:=h.now.parts.1
 have h3:=h.blk
 have h4:=h.NN
 have h5:=h.gN
 refine ⟨ho.os,ho.tape,ho.output,ho.size,fun k hk=>ho.block k (by omega) ?_⟩
 rintro (e | e | e)
 ·omega
 ·omega
 ·have:=h3 _ e;omega
def WrotePg (w w':World) (B g gs gn:Nat) (rw:Value) (L cs cn:Nat) (st nw:List UInt8) (ws:List (Nat × List UInt8)) (a:Nat) (bs:List UInt8):Prop :=
 (∃ rw' ws' nw',Dk w' B w'.heap.size g gs gn rw' L cs cn st nw' ws' true (-1)∧ws'.length=ws.length+4∧pageOf nw' a=bs∧(∀ a',a'≠a→pageOf nw' a'=pageOf nw a')∧Moved w rw.ownBlock rw'.ownBlock)∧OuterX (DkX g gn rw) w w'∧Below B w w'
theorem wrotePg (h:Dk w B N g gs gn rw L cs cn st nw ws on left) {a:Nat} {bs:List UInt8} (ha:256*a+256≤L) (hb:bs.length=256)
 (hd:(∃ rw' ws',Dk w' B w'.heap.size g gs gn rw' L cs cn st (rawN nw (256*a) bs 4) ws' true (-1)∧ws'.length=ws.length+4∧Moved w rw.ownBlock rw'.ownBlock)∧OuterX (DkX g gn rw) w w'):WrotePg w w' B g gs gn rw L cs cn st nw ws a bs:=by
 obtain ⟨⟨rw',ws',h1,h2,h3⟩,h4⟩:=hd
 exact ⟨⟨rw',ws',_,h1,h2,page_same (by rw [h.lnw];exact ha) hb,fun a' hne=>page_other (by rw [h.lnw];exact ha) hb hne,h3⟩,h4,h.outer_below h4⟩
theorem pwrite_pgX (h:Dk w B N g gs gn rw L cs cn st nw ws true (-1)) (hws:ws.length≤990) (k:UInt8) (m gg:Nat) (b PP:List UInt8) (eP:PP=putP ⟨k,(m:Int),gg,b⟩) (hk:isK k=true) (hm:m<512) (hg:gg<18446744073709551616) (hb:b.length≤238) (hmL:256*m+256≤L) (A:Option Addr) (c:Nat) (hx:BytesAt w A b) (hbc:b.length≤c) (C:Array Value) (eC:C=cellsC ⟨k,(m:Int),gg,b⟩ A c) :
 Calls Tryz.prog 76 #[.agg tab,.pointer (some ⟨g,0,none⟩),.agg C] w fun e w'=>e=.returned (.int .i64 0)∧WrotePg w w' B g gs gn rw L cs cn st nw ws m PP:=by
 subst eP
 exact (pwrite_okX h hws k m gg b hk hm hg hb hmL A c hx hbc C eC).mono fun e w' ⟨h1,h2⟩=>⟨h1,wrotePg h hmL (length_putP _ hb) h2⟩
theorem told_put (k:UInt8) (m g:Nat) (b:List UInt8) (hk:isK k=true) (hm:m<512) (hg:g<18446744073709551616) (hb:b.length≤238) :
 numOf (putP ⟨k,(m:Int),g,b⟩)=0∧toldP (putP ⟨k,(m:Int),g,b⟩)=⟨k,(m:Int),g,b⟩:=by
 have hgd:=good_put k m g b hk hm hg hb
 have hl:¬ (putP ⟨k,(m:Int),g,b⟩).length≠256:=fun h=>h (length_putP _ hb)
 refine ⟨?_,?_⟩
 ·simp only [numOf,if_pos hgd,if_neg hl]
 ·simp only [toldP,if_pos hgd]
  exact (parse_put k m g b hm hg hb).2
theorem pread_yes (h:Dk w B N g gs gn rw L cs cn st nw ws true left) (za:Int) (a:Nat) (hza:za=(a:Int)) (hin:256*a+256≤L) (k:UInt8) (gg:Nat) (b:List UInt8) (hk:isK k=true) (hg:gg<18446744073709551616) (hb:b.length≤238)
 (PP:List UInt8) (eP:PP=putP ⟨k,(a:Int),gg,b⟩) (hxs:pageOf nw a=PP) (zk:Int) (hzk:zk=(k.toNat:Int)) :
 Calls Tryz.prog 83 #[.agg tab,.pointer (some ⟨g,0,none⟩),.int .i64 za,.int .u8 zk] w fun e w' =>
  (∃ A' c',e=.returned (.tuple #[.agg (cellsC ⟨k,(a:Int),gg,b⟩ A' c'),.int .i64 0])∧BytesAt w' A' b∧b.length≤c'∧c'≤maxLen∧∀ a,A'=some a→w.heap.size≤a.block)∧Below w.heap.size w w':=by
 subst hzk
 have hh:=h.hi
 obtain ⟨t1,t2⟩:=told_put k a gg b hk (by omega) hg hb
 rw [← eP] at t1 t2
 refine (pread_any h za a hza hin k PP hxs).mono fun e w' ⟨hr,hb⟩=>⟨?_,hb⟩
 rcases hr with ⟨_,A',c',h2,h3,h4,h4m,h5⟩ | ⟨h1,_⟩
 ·rw [t2] at h2 h3 h4
  exact ⟨A',c',h2,h3,h4,h4m,h5⟩
 ·exact absurd ⟨t1,by rw [t2],by rw [t2]⟩ h1
end
section
variable {w w':World} {B N g gs gn L cs cn:Nat} {rw:Value} {st nw:List UInt8} {ws:List (Nat × List UInt8)} {on:Bool} {left:Int}
theorem Dk.keepX (h:Dk w B N g gs gn rw L cs cn st nw ws on left) (hs:w.heap.size≤w'.heap.size) (kg:w'.heap[g]?=w.heap[g]?) (ks:w'.heap[gs]?=w.heap[gs]?) (kn:w'.heap[gn]?=w.heap[gn]?) (kw:∀ k,rw.ownBlock=some k→w'.heap[k]?=w.heap[k]?):Dk w' B N g gs gn rw L cs cn st nw ws on left :=
 { h with
   head:=kg.trans h.head
   stay:=h.stay.keep ks
   now:=h.now.keep kn
   wait:=by
    rcases h.wait.2 with ⟨h0,h1⟩ | ⟨g',cap',cur,hv,hb,hh,hr⟩
    ·exact ⟨h.wait.1,.inl ⟨h0,h1⟩⟩
    ·exact ⟨h.wait.1,.inr ⟨g',cap',cur,hv,hb,(kw g' (by rw [hv];rfl)).trans hh,hr⟩⟩
   NN:=Nat.le_trans h.NN hs }
theorem Dk.tyN (h:Dk w B N g gs gn rw L cs cn st nw ws on left):∃ c,w.heap[gn]?=some (.cells c 5 (0,0)):=by
 obtain ⟨_,_,_,cur,hc,_⟩:=h.now.parts
 exact ⟨cur,hc⟩
theorem Dk.notX (h:Dk w B N g gs gn rw L cs cn st nw ws on left) {k:Nat} {c:Array Value} {T:TypeId} {fr:Nat × Nat} (hk:w.heap[k]?=some (.cells c T fr)) (h1:T≠145) (h2:T≠5∨N≤k) (h3:T≠251):¬ DkX g gn rw k:=by
 rintro (rfl | rfl | e)
 ·have h0:=h.head
  rw [hk] at h0
  cases h0
  exact h1 rfl
 ·rcases h2 with h2 | h2
  ·obtain ⟨cur,hc⟩:=h.tyN
   rw [hk] at hc
   cases hc
   exact h2 rfl
  ·have:=h.nN
   omega
 ·rcases h.wait.2 with ⟨h0,_⟩ | ⟨q,cap,cur,hv,_,hq,_⟩
  ·rw [h0] at e
   simp [Value.ownBlock] at e
  ·rw [hv] at e
   obtain rfl:q=k:=by simpa [Value.ownBlock] using e
   rw [hk] at hq
   cases hq
   exact h3 rfl
end
end Go.Proofs.YtgkddhncfaeidaaGreat
