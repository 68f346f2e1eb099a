/- Squeezed: the texts as they are written lie in wip/tpl. -/
import Derived.Test.YtgkddhncfaeidaaGreatPart10
set_option maxRecDepth 100000
set_option maxHeartbeats 4000000
set_option linter.unusedSimpArgs false
set_option linter.unusedVariables false
namespace Go.Proofs.YtgkddhncfaeidaaGreat
open Go.ChangeShapes Go.WideShapes Go.ChangeAt Go.RowKit CrcM PageM
theorem infoNodeN:(Tryz.prog.info? 86).map (fun i=>(i.zero,i.size,i.bytes))=some (some (.agg #[.bool false,.slice none 0 0,.slice none 0 0,.slice none 0 0]),4,80):=by kernel_rfl
def ndP (p:NodeD × NdL):List Value:=[.bool p.1.leaf,.slice p.2.EA p.1.es.length p.2.ec,.slice p.2.KA p.1.ks.length p.2.kc,.slice p.2.DA p.1.ds.length p.2.dc]
theorem lenNdP (p:NodeD × NdL):(ndP p).length=4:=rfl
theorem ndP_one (p:NodeD × NdL):∀ u ∈ ndP p,u.oneCell'=true:=by
 intro u hu
 simp [ndP] at hu
 rcases hu with rfl | rfl | rfl | rfl <;> rfl
theorem row_cellsAt {w:World} {base sz n c:Nat} {E:TypeId} {A:Option Addr} {us:List Value} (h:w.ownsRow base E sz (.slice A n c) n us):CellsAt w A us:=fun hne=>by
 obtain ⟨g,hA,_,hc⟩:=row_cells h hne
 exact ⟨g,0,hA,fun k hk=>by rw [Nat.zero_add];exact hc k _ (List.getElem?_eq_getElem hk)⟩
def SplitRet (w:World) (n:NodeD) (e:Ending) (w':World):Prop :=
 ∃ A c,∃ ps:List (NodeD × NdL),e=.returned (.slice A ps.length c)∧w'.ownsRow w.heap.size 86 4 (.slice A ps.length c) ps.length (ps.flatMap ndP)∧(∀ p ∈ ps,OwnN w' w.heap.size p.1 p.2)∧SplitOf n (ps.map Prod.fst)∧Below w.heap.size w w'
theorem split_none (n:NodeD) (l:NdL) (hc:cleanN n) (h0:n.size=0) (w:World) :
 Calls Tryz.prog 62 #[.agg #[.bool n.leaf,.slice l.EA n.es.length l.ec,.slice l.KA n.ks.length l.kc,.slice l.DA n.ds.length l.dc]] w (SplitRet w n):=by
 obtain ⟨W,eW⟩:∃ W,W=w.alloc (.cells #[.bool n.leaf,.slice l.EA n.es.length l.ec,.slice l.KA n.ks.length l.kc,.slice l.DA n.ds.length l.dc] 86):=⟨_,rfl⟩
 have hb:Below w.heap.size w W:=by rw [eW];exact (Below.refl _ _).alloc (Nat.le_refl _) _
 have hg:W.heap[w.heap.size]?=some (.cells #[.bool n.leaf,.slice l.EA n.es.length l.ec,.slice l.KA n.ks.length l.kc,.slice l.DA n.ds.length l.dc] 86 (0,0)):=by rw [eW];exact heap_alloc_new _ _
 have hWs:W.heap.size=w.heap.size+1:=by rw [eW];simp
 have HB:=Lib.hid hb
 have HG:=Lib.hid hg
 have HWS:=Lib.hid hWs
 have HC:=Lib.hid hc
 have H0:=Lib.hid h0
 have HS:Hid (∀ W',Calls Tryz.prog 52 #[.agg #[.bool n.leaf,.slice l.EA n.es.length l.ec,.slice l.KA n.ks.length l.kc,.slice l.DA n.ds.length l.dc]] W' fun e w'=>e=.returned (.int .i64 0)∧Below W'.heap.size W' w'):=Lib.hid (fun W'=>by have:=size_any n l W';rw [h0] at this;exact this)
 clear hb hg hWs hc h0
 go_enter Tryz.func62,Tryz.ntmps62
 go_upto_region 1 with fail
 rw [← eW]
 clear eW
 go_wp2_with (first
  | (refine wpList_load_row rfl 86 (.tmp 1) rfl w.heap.size rfl 86 _ (0,0) _ HG.out Tryz.underlying86 rfl (by kernel_rfl) ?_)
  | (go_at_call 52;refine (HS.out _).mono ?_;rintro e w1 ⟨rfl,hb1⟩;have HB1:=Lib.hid hb1;clear hb1))
 go_ret
 exact ⟨none,0,[],rfl,World.ownsRow_nil _ _ _ _,by simp,SplitOf.zero HC.out H0.out,HB.out.trans (HB1.out.mono HB.out.size)⟩
theorem split_one (n:NodeD) (l:NdL) (hc:cleanN n) (h1:1≤n.size) (h2:n.size≤capN n.leaf) (hf:FitsN n) (w:World) (hat:NodeAt w n l) :
 Calls Tryz.prog 62 #[.agg #[.bool n.leaf,.slice l.EA n.es.length l.ec,.slice l.KA n.ks.length l.kc,.slice l.DA n.ds.length l.dc]] w (SplitRet w n):=by
 obtain ⟨W,eW⟩:∃ W,W=w.alloc (.cells #[.bool n.leaf,.slice l.EA n.es.length l.ec,.slice l.KA n.ks.length l.kc,.slice l.DA n.ds.length l.dc] 86):=⟨_,rfl⟩
 have hb:Below w.heap.size w W:=by rw [eW];exact (Below.refl _ _).alloc (Nat.le_refl _) _
 have hg:W.heap[w.heap.size]?=some (.cells #[.bool n.leaf,.slice l.EA n.es.length l.ec,.slice l.KA n.ks.length l.kc,.slice l.DA n.ds.length l.dc] 86 (0,0)):=by rw [eW];exact heap_alloc_new _ _
 have hWs:W.heap.size=w.heap.size+1:=by rw [eW];simp
 have HB:=Lib.hid hb
 have HG:=Lib.hid hg
 have HWS:=Lib.hid hWs
 have HC:=Lib.hid hc
 have HF:=Lib.hid hf
 have HN:=Lib.hid (hat.below hb)
 obtain ⟨s,hs⟩:∃ s,n.size=s:=⟨_,rfl⟩
 have HS:Hid (∀ W',Calls Tryz.prog 52 #[.agg #[.bool n.leaf,.slice l.EA n.es.length l.ec,.slice l.KA n.ks.length l.kc,.slice l.DA n.ds.length l.dc]] W' fun e w'=>e=.returned (.int .i64 (s:Int))∧Below W'.heap.size W' w'):=Lib.hid (fun W'=>by have:=size_any n l W';rw [hs] at this;exact this)
 have HP:=Lib.hid (SplitOf.single hc h1 h2)
 rw [hs] at h1 h2
 have hl:n.leaf=true∧s≤7∨n.leaf=false∧s≤16:=by unfold capN at h2;cases hq:n.leaf <;> rw [hq] at h2 <;> simp at h2 <;> simp <;> omega
 have q0:((s:Int) == 0)=false:=by simp;omega
 clear hb hg hWs hc hf hs hat
 rcases hl with ⟨hl,h7⟩ | ⟨hl,h7⟩
 ·have q7:decide ((s:Int)≤7)=true:=by simp;omega
  have HLF:=Lib.hid hl
  clear hl
  go_enter Tryz.func62,Tryz.ntmps62
  go_upto_region 1 with fail
  rw [← eW]
  clear eW
  go_upto_region 4 with (first
   | (refine wpList_load_row rfl 86 (.tmp 1) rfl w.heap.size rfl 86 _ (0,0) _ HG.out Tryz.underlying86 rfl (by kernel_rfl) ?_)
   | (go_at_call 52;refine (HS.out _).mono ?_;rintro e w1 ⟨rfl,hb1⟩;have HB1:=Lib.hid hb1;clear hb1))
  have d0:w1.cell? ⟨w.heap.size,0,none⟩=some (.bool true):=by rw [← HLF.out];exact nd_cell (row_stays HG.out HB1.out) 0 _ rfl
  have HG1:=Lib.hid (row_stays HG.out HB1.out)
  go_upto_region 5 with fail
  clear d0
  have HN1:=Lib.hid (HN.out.below HB1.out)
  go_wp2_with (first
   | (refine wpList_load_row rfl 86 (.tmp 1) rfl w.heap.size rfl 86 _ (0,0) _ HG1.out Tryz.underlying86 rfl (by kernel_rfl) ?_)
   | (go_at_call 94;refine (nclone_any n l HF.out _ HN1.out).mono ?_;rintro e w2 ⟨l2,rfl,ho2,hb2⟩;have HO2:=Lib.hid ho2;have HB2:=Lib.hid hb2;clear ho2 hb2))
  go_ret
  have hba:Below w2.heap.size w2 (w2.alloc (.cells #[.bool n.leaf,.slice l2.EA n.es.length l2.ec,.slice l2.KA n.ks.length l2.kc,.slice l2.DA n.ds.length l2.dc] 86)):=(Below.refl _ _).alloc (Nat.le_refl _) _
  have hz:w.heap.size≤w1.heap.size:=by have:=HB1.out.size;have:=HB.out.size;omega
  have hz2:w.heap.size≤w2.heap.size:=by have:=HB2.out.size;omega
  refine ⟨some ⟨w2.heap.size,0,none⟩,1,[(n,l2)],rfl,⟨rfl,.inr ⟨w2.heap.size,1,_,rfl,hz2,heap_alloc_new _ _,Nat.le_refl _,by unfold maxLen;simp,rfl,rfl⟩⟩,?_,HP.out,?_⟩
  ·intro p hp
   simp at hp
   subst hp
   exact (HO2.out.below hba).mono hz
  ·exact (HB.out.trans (HB1.out.mono HB.out.size)).trans ((HB2.out.trans (hba.mono HB2.out.size)).mono hz)
 ·have q7:decide ((s:Int)≤16)=true:=by simp;omega
  have HLF:=Lib.hid hl
  clear hl
  go_enter Tryz.func62,Tryz.ntmps62
  go_upto_region 1 with fail
  rw [← eW]
  clear eW
  go_upto_region 4 with (first
   | (refine wpList_load_row rfl 86 (.tmp 1) rfl w.heap.size rfl 86 _ (0,0) _ HG.out Tryz.underlying86 rfl (by kernel_rfl) ?_)
   | (go_at_call 52;refine (HS.out _).mono ?_;rintro e w1 ⟨rfl,hb1⟩;have HB1:=Lib.hid hb1;clear hb1))
  have d0:w1.cell? ⟨w.heap.size,0,none⟩=some (.bool false):=by rw [← HLF.out];exact nd_cell (row_stays HG.out HB1.out) 0 _ rfl
  have HG1:=Lib.hid (row_stays HG.out HB1.out)
  go_upto_region 5 with fail
  clear d0
  have HN1:=Lib.hid (HN.out.below HB1.out)
  go_wp2_with (first
   | (refine wpList_load_row rfl 86 (.tmp 1) rfl w.heap.size rfl 86 _ (0,0) _ HG1.out Tryz.underlying86 rfl (by kernel_rfl) ?_)
   | (go_at_call 94;refine (nclone_any n l HF.out _ HN1.out).mono ?_;rintro e w2 ⟨l2,rfl,ho2,hb2⟩;have HO2:=Lib.hid ho2;have HB2:=Lib.hid hb2;clear ho2 hb2))
  go_ret
  have hba:Below w2.heap.size w2 (w2.alloc (.cells #[.bool n.leaf,.slice l2.EA n.es.length l2.ec,.slice l2.KA n.ks.length l2.kc,.slice l2.DA n.ds.length l2.dc] 86)):=(Below.refl _ _).alloc (Nat.le_refl _) _
  have hz:w.heap.size≤w1.heap.size:=by have:=HB1.out.size;have:=HB.out.size;omega
  have hz2:w.heap.size≤w2.heap.size:=by have:=HB2.out.size;omega
  refine ⟨some ⟨w2.heap.size,0,none⟩,1,[(n,l2)],rfl,⟨rfl,.inr ⟨w2.heap.size,1,_,rfl,hz2,heap_alloc_new _ _,Nat.le_refl _,by unfold maxLen;simp,rfl,rfl⟩⟩,?_,HP.out,?_⟩
  ·intro p hp
   simp at hp
   subst hp
   exact (HO2.out.below hba).mono hz
  ·exact (HB.out.trans (HB1.out.mono HB.out.size)).trans ((HB2.out.trans (hba.mono HB2.out.size)).mono hz)
theorem split_two (n a b:NodeD) (l:NdL) (hc:cleanN n) (h2:capN n.leaf<n.size) (h:Nat) (hh:h=(n.size+1) / 2) (ha:a=partA n h) (hbb:b=partB n h) (hm:n.size≤1000000000) (w:World) (hat:NodeAt w n l)
 (hv:∀ W',NodeAt W' n l→Calls Tryz.prog 95 #[.agg #[.bool n.leaf,.slice l.EA n.es.length l.ec,.slice l.KA n.ks.length l.kc,.slice l.DA n.ds.length l.dc]] W' fun e w'=>(∃ la lb:NdL,e=.returned (.tuple #[.agg #[.bool a.leaf,.slice la.EA a.es.length la.ec,.slice la.KA a.ks.length la.kc,.slice la.DA a.ds.length la.dc],.agg #[.bool b.leaf,.slice lb.EA b.es.length lb.ec,.slice lb.KA b.ks.length lb.kc,.slice lb.DA b.ds.length lb.dc]])∧NodeAt w' a la∧NodeAt w' b lb)∧Below W'.heap.size W' w')
 (sa:∀ (la:NdL) W',NodeAt W' a la→Calls Tryz.prog 62 #[.agg #[.bool a.leaf,.slice la.EA a.es.length la.ec,.slice la.KA a.ks.length la.kc,.slice la.DA a.ds.length la.dc]] W' (SplitRet W' a)) (sb:∀ (lb:NdL) W',NodeAt W' b lb→Calls Tryz.prog 62 #[.agg #[.bool b.leaf,.slice lb.EA b.es.length lb.ec,.slice lb.KA b.ks.length lb.kc,.slice lb.DA b.ds.length lb.dc]] W' (SplitRet W' b)) :
 Calls Tryz.prog 62 #[.agg #[.bool n.leaf,.slice l.EA n.es.length l.ec,.slice l.KA n.ks.length l.kc,.slice l.DA n.ds.length l.dc]] w (SplitRet w n):=by
 obtain ⟨W,eW⟩:∃ W,W=w.alloc (.cells #[.bool n.leaf,.slice l.EA n.es.length l.ec,.slice l.KA n.ks.length l.kc,.slice l.DA n.ds.length l.dc] 86):=⟨_,rfl⟩
 have hb:Below w.heap.size w W:=by rw [eW];exact (Below.refl _ _).alloc (Nat.le_refl _) _
 have hg:W.heap[w.heap.size]?=some (.cells #[.bool n.leaf,.slice l.EA n.es.length l.ec,.slice l.KA n.ks.length l.kc,.slice l.DA n.ds.length l.dc] 86 (0,0)):=by rw [eW];exact heap_alloc_new _ _
 have hWs:W.heap.size=w.heap.size+1:=by rw [eW];simp
 have HB:=Lib.hid hb
 have HG:=Lib.hid hg
 have HWS:=Lib.hid hWs
 have HC:=Lib.hid hc
 have HN:=Lib.hid (hat.below hb)
 have HV:=Lib.hid hv
 have SA:=Lib.hid sa
 have SB:=Lib.hid sb
 have HJ:Hid (∀ ps qs,SplitOf a ps→SplitOf b qs→SplitOf n (ps ++ qs)):=Lib.hid (fun ps qs h1 h3=>by subst ha hbb;exact SplitOf.join h2 h hh h1 h3)
 have HM:Hid (a.size+b.size≤1000000000):=Lib.hid (by rw [ha,hbb,partA_size n h (by omega),partB_size n h];omega)
 obtain ⟨s,hs⟩:∃ s,n.size=s:=⟨_,rfl⟩
 have HS:Hid (∀ W',Calls Tryz.prog 52 #[.agg #[.bool n.leaf,.slice l.EA n.es.length l.ec,.slice l.KA n.ks.length l.kc,.slice l.DA n.ds.length l.dc]] W' fun e w'=>e=.returned (.int .i64 (s:Int))∧Below W'.heap.size W' w'):=Lib.hid (fun W'=>by have:=size_any n l W';rw [hs] at this;exact this)
 rw [hs] at h2
 have hl:n.leaf=true∧7<s∨n.leaf=false∧16<s:=by unfold capN at h2;cases hq:n.leaf <;> rw [hq] at h2 <;> simp at h2 <;> simp <;> omega
 have q0:((s:Int) == 0)=false:=by simp;omega
 clear hb hg hWs hc hs hat hv sa sb ha hbb hh hm h2
 rcases hl with ⟨hl,h7⟩ | ⟨hl,h7⟩
 ·have q7:decide ((s:Int)≤7)=false:=by simp;omega
  have HLF:=Lib.hid hl
  clear hl
  go_enter Tryz.func62,Tryz.ntmps62
  go_upto_region 1 with fail
  rw [← eW]
  clear eW
  go_upto_region 4 with (first
   | (refine wpList_load_row rfl 86 (.tmp 1) rfl w.heap.size rfl 86 _ (0,0) _ HG.out Tryz.underlying86 rfl (by kernel_rfl) ?_)
   | (go_at_call 52;refine (HS.out _).mono ?_;rintro e w1 ⟨rfl,hb1⟩;have HB1:=Lib.hid hb1;clear hb1))
  have d0:w1.cell? ⟨w.heap.size,0,none⟩=some (.bool true):=by rw [← HLF.out];exact nd_cell (row_stays HG.out HB1.out) 0 _ rfl
  have HG1:=Lib.hid (row_stays HG.out HB1.out)
  go_upto_region 6 with fail
  clear d0 q0 q7 h7
  have HN1:=Lib.hid (HN.out.below HB1.out)
  go_upto_region 7 with (first
   | (refine wpList_load_row rfl 86 (.tmp 1) rfl w.heap.size rfl 86 _ (0,0) _ HG1.out Tryz.underlying86 rfl (by kernel_rfl) ?_)
   | (go_at_call 95;refine (HV.out _ HN1.out).mono ?_;rintro e w2 ⟨⟨la,lb,rfl,hna,hnb⟩,hb2⟩;have HNA:=Lib.hid hna;have HNB:=Lib.hid hnb;have HB2:=Lib.hid hb2;clear hna hnb hb2;have Z0:=Lib.hid (heap_alloc2_old w2 (.cells #[.bool false,.slice none 0 0,.slice none 0 0,.slice none 0 0] 86) (.cells #[.bool false,.slice none 0 0,.slice none 0 0,.slice none 0 0] 86));have Z1:=Lib.hid (heap_alloc2_new w2 (.cells #[.bool false,.slice none 0 0,.slice none 0 0,.slice none 0 0] 86) (.cells #[.bool false,.slice none 0 0,.slice none 0 0,.slice none 0 0] 86)))
   | (refine wpList_store_row rfl 86 (.tmp 4) (.tmp 31) rfl w2.heap.size #[.bool a.leaf,.slice la.EA a.es.length la.ec,.slice la.KA a.ks.length la.kc,.slice la.DA a.ds.length la.dc] rfl rfl 86 #[.bool false,.slice none 0 0,.slice none 0 0,.slice none 0 0] Z0.out (by kernel_rfl) rfl (by simp [Value.oneCell']) ?_)
   | (refine wpList_store_row rfl 86 (.tmp 5) (.tmp 32) rfl (w2.heap.size+1) #[.bool b.leaf,.slice lb.EA b.es.length lb.ec,.slice lb.KA b.ks.length lb.kc,.slice lb.DA b.ds.length lb.dc] rfl rfl 86 #[.bool false,.slice none 0 0,.slice none 0 0,.slice none 0 0] ((setRow_other _ _ _ _ (by omega)).trans Z1.out) (by kernel_rfl) rfl (by simp [Value.oneCell']) ?_))
  simp only [Act.put]
  obtain ⟨V,hV⟩:∃ V,V=(((w2.alloc (.cells #[.bool false,.slice none 0 0,.slice none 0 0,.slice none 0 0] 86)).alloc (.cells #[.bool false,.slice none 0 0,.slice none 0 0,.slice none 0 0] 86)).setRow w2.heap.size #[.bool a.leaf,.slice la.EA a.es.length la.ec,.slice la.KA a.ks.length la.kc,.slice la.DA a.ds.length la.dc]).setRow (w2.heap.size+1) #[.bool b.leaf,.slice lb.EA b.es.length lb.ec,.slice lb.KA b.ks.length lb.kc,.slice lb.DA b.ds.length lb.dc]:=⟨_,rfl⟩
  rw [← hV]
  have B2V:Hid (Below w2.heap.size w2 V):=Lib.hid (by rw [hV];exact below_setRow (below_setRow (((Below.refl _ _).alloc (Nat.le_refl _) _).alloc (by simp) _) (Nat.le_refl _) _) (by omega) _)
  have G4:Hid (V.heap[w2.heap.size]?=some (.cells #[.bool a.leaf,.slice la.EA a.es.length la.ec,.slice la.KA a.ks.length la.kc,.slice la.DA a.ds.length la.dc] 86 (0,0))):=Lib.hid (by rw [hV,setRow_other _ _ _ _ (by omega)];exact setRow_heap _ _ _ _ _ _ Z0.out)
  have G5:Hid (V.heap[w2.heap.size+1]?=some (.cells #[.bool b.leaf,.slice lb.EA b.es.length lb.ec,.slice lb.KA b.ks.length lb.kc,.slice lb.DA b.ds.length lb.dc] 86 (0,0))):=Lib.hid (by rw [hV];exact setRow_heap _ _ _ _ _ _ ((setRow_other _ _ _ _ (by omega)).trans Z1.out))
  have NA:=Lib.hid (HNA.out.below B2V.out)
  have NB:=Lib.hid (HNB.out.below B2V.out)
  have BV:Hid (Below w.heap.size w V):=Lib.hid (by
   have h1:=HB1.out.trans (HB2.out.mono HB1.out.size)
   have h2:=h1.trans (B2V.out.mono h1.size)
   exact HB.out.trans (h2.mono HB.out.size))
  clear hV Z0 Z1 HNA HNB HB2 HB1 HG1 HG HN HN1 B2V
  have f4:Hid (∀ y:SubW V.heap.size V,y.at_.heap[w2.heap.size]?=some (.cells #[.bool a.leaf,.slice la.EA a.es.length la.ec,.slice la.KA a.ks.length la.kc,.slice la.DA a.ds.length la.dc] 86 (0,0))):=Lib.hid (fun y=>row_stays G4.out y.ok_)
  have f5:Hid (∀ y:SubW V.heap.size V,y.at_.heap[w2.heap.size+1]?=some (.cells #[.bool b.leaf,.slice lb.EA b.es.length lb.ec,.slice lb.KA b.ks.length lb.kc,.slice lb.DA b.ds.length lb.dc] 86 (0,0))):=Lib.hid (fun y=>row_stays G5.out y.ok_)
  refine region_overB V.heap.size (Nat.le_refl _) [([0,2],1),([],3),([],4)] [5] (by kernel_rfl) (by kernel_rfl) ?_
  rintro wd hbd
  have BD:=Lib.hid hbd
  clear hbd
  rw [wpBl_cons]
  try simp only [List.map_cons,List.map_nil,opAt,List.getElem?_toArray,List.getElem?_cons_zero,List.getElem?_cons_succ,Option.getD_some]
  repeat (first
   | (go_big_quiet_want;refine quiet_load_row 86 (.tmp 4) rfl w2.heap.size rfl 86 _ (0,0) _ f4.out Tryz.underlying86 rfl (by kernel_rfl) ?_;simp only [Act.put,List.setIfInBounds_toArray,List.set_cons_zero,List.set_cons_succ];go_big_quiet_on)
   | (go_big_quiet_want;refine quiet_load_row 86 (.tmp 5) rfl (w2.heap.size+1) rfl 86 _ (0,0) _ f5.out Tryz.underlying86 rfl (by kernel_rfl) ?_;simp only [Act.put,List.setIfInBounds_toArray,List.set_cons_zero,List.set_cons_succ];go_big_quiet_on)
   | go_big_quiet_step (fail))
  refine wpQuiet_nil ?_
  go_wp2_with (go_at_call 62;refine (SA.out la _ (NA.out.below BD.out)).mono ?_;rintro e x1 ⟨A1,c1,ps,rfl,ho1,hp1,hs1,b1⟩;have O1:=Lib.hid (row_mono ho1 (show w.heap.size≤wd.heap.size from by have:=BD.out.size;have:=BV.out.size;omega));have KB:=Lib.hid (fun k (hk:(Value.slice A1 ps.length c1).ownBlock=some k)=>Nat.le_trans BD.out.size (World.ownsRow.lt ho1 k hk).1);have P1:=Lib.hid hp1;have S1:=Lib.hid hs1;have B1:=Lib.hid (BD.out.trans (b1.mono BD.out.size));clear ho1 hp1 hs1 b1)
  refine ⟨⟨⟨_,B1.out⟩,rfl⟩,?_⟩
  rw [wpBl_cons]
  try simp only [List.map_nil,opAt,List.getElem?_toArray,List.getElem?_cons_zero,List.getElem?_cons_succ,Option.getD_some]
  refine wpQuiet_nil ?_
  go_wp2_with (go_at_call 62;refine (SB.out lb _ (NB.out.below B1.out)).mono ?_;rintro e x2 ⟨A2,c2,qs,rfl,ho2,hp2,hs2,b2⟩;have O2:=Lib.hid ho2;have P2:=Lib.hid hp2;have S2:=Lib.hid hs2;have O12:=Lib.hid (row_below O1.out b2);have P12:Hid (∀ p ∈ ps,OwnN x2 w.heap.size p.1 p.2):=Lib.hid (fun p hp=>((P1.out p hp).mono (show w.heap.size≤wd.heap.size from by have:=BD.out.size;have:=BV.out.size;omega)).below b2);have B2:=Lib.hid (B1.out.trans (b2.mono B1.out.size));clear ho2 hp2 hs2 b2)
  refine ⟨⟨⟨_,B2.out⟩,rfl⟩,?_⟩
  rw [wpBl_cons]
  try simp only [List.map_nil,opAt,List.getElem?_toArray,List.getElem?_cons_zero,List.getElem?_cons_succ,Option.getD_some]
  refine wpQuiet_nil ?_
  have KN:Hid (ps.length+qs.length≤1000000000):=Lib.hid (by have h1:=S1.out.cnt;have h2:=S2.out.cnt;have:=HM.out;rw [List.length_map] at h1 h2;omega)
  go_wp2_with (at_builtin;refine wpList_append_row rfl (.tmp 34) (.tmp 36) 82 rfl Tryz.underlying82 (.agg #[.bool false,.slice none 0 0,.slice none 0 0,.slice none 0 0]) 80 infoNodeN (by rfl) (by decide) _ rfl O12.out A2 c2 qs.length rfl (flatV_len lenNdP qs) (row_cellsAt O2.out) (flat_one ndP_one qs) (by have:=KN.out;omega) (by have:=KN.out;unfold maxLen;omega) (by have:=BV.out.size;have:=B2.out.size;omega) (ps ++ qs).length (by rw [List.length_append]) ((ps ++ qs).flatMap ndP) (by rw [List.flatMap_append]) ?_;intro A3 c3 x3 ho3 hg3;have O3:=Lib.hid ho3;have G3:=Lib.hid hg3;clear ho3 hg3)
  have BA:Hid (Below w.heap.size w x2):=Lib.hid (BV.out.trans (B2.out.mono BV.out.size))
  have B3:Hid (Below V.heap.size V x3):=Lib.hid (B2.out.grown G3.out B2.out.size (fun k hk=>KB.out k hk))
  refine ⟨⟨⟨_,B3.out⟩,rfl⟩,?_⟩
  try simp only [Act.put,List.setIfInBounds_toArray,List.set_cons_zero,List.set_cons_succ]
  rw [wpBl_nil]
  try simp only [List.map_cons,List.map_nil,opAt,List.getElem?_toArray,List.getElem?_cons_zero,List.getElem?_cons_succ,Option.getD_some]
  repeat (go_big_quiet_step (fail))
  refine wpQuiet_nil ?_
  go_wp2_with fail
  go_ret
  refine ⟨A3,c3,ps ++ qs,rfl,O3.out,?_,?_,BV.out.trans (B3.out.mono BV.out.size)⟩
  ·intro p hp
   rcases List.mem_append.1 hp with h1 | h1
   ·exact (P12.out p h1).beside O12.out G3.out
   ·exact ((P2.out p h1).mono (by have:=BV.out.size;have:=B1.out.size;omega)).beside O12.out G3.out
  ·rw [List.map_append]
   exact HJ.out _ _ S1.out S2.out
 ·have q7:decide ((s:Int)≤16)=false:=by simp;omega
  have HLF:=Lib.hid hl
  clear hl
  go_enter Tryz.func62,Tryz.ntmps62
  go_upto_region 1 with fail
  rw [← eW]
  clear eW
  go_upto_region 4 with (first
   | (refine wpList_load_row rfl 86 (.tmp 1) rfl w.heap.size rfl 86 _ (0,0) _ HG.out Tryz.underlying86 rfl (by kernel_rfl) ?_)
   | (go_at_call 52;refine (HS.out _).mono ?_;rintro e w1 ⟨rfl,hb1⟩;have HB1:=Lib.hid hb1;clear hb1))
  have d0:w1.cell? ⟨w.heap.size,0,none⟩=some (.bool false):=by rw [← HLF.out];exact nd_cell (row_stays HG.out HB1.out) 0 _ rfl
  have HG1:=Lib.hid (row_stays HG.out HB1.out)
  go_upto_region 6 with fail
  clear d0 q0 q7 h7
  have HN1:=Lib.hid (HN.out.below HB1.out)
  go_upto_region 7 with (first
   | (refine wpList_load_row rfl 86 (.tmp 1) rfl w.heap.size rfl 86 _ (0,0) _ HG1.out Tryz.underlying86 rfl (by kernel_rfl) ?_)
   | (go_at_call 95;refine (HV.out _ HN1.out).mono ?_;rintro e w2 ⟨⟨la,lb,rfl,hna,hnb⟩,hb2⟩;have HNA:=Lib.hid hna;have HNB:=Lib.hid hnb;have HB2:=Lib.hid hb2;clear hna hnb hb2;have Z0:=Lib.hid (heap_alloc2_old w2 (.cells #[.bool false,.slice none 0 0,.slice none 0 0,.slice none 0 0] 86) (.cells #[.bool false,.slice none 0 0,.slice none 0 0,.slice none 0 0] 86));have Z1:=Lib.hid (heap_alloc2_new w2 (.cells #[.bool false,.slice none 0 0,.slice none 0 0,.slice none 0 0] 86) (.cells #[.bool false,.slice none 0 0,.slice none 0 0,.slice none 0 0] 86)))
   | (refine wpList_store_row rfl 86 (.tmp 4) (.tmp 31) rfl w2.heap.size #[.bool a.leaf,.slice la.EA a.es.length la.ec,.slice la.KA a.ks.length la.kc,.slice la.DA a.ds.length la.dc] rfl rfl 86 #[.bool false,.slice none 0 0,.slice none 0 0,.slice none 0 0] Z0.out (by kernel_rfl) rfl (by simp [Value.oneCell']) ?_)
   | (refine wpList_store_row rfl 86 (.tmp 5) (.tmp 32) rfl (w2.heap.size+1) #[.bool b.leaf,.slice lb.EA b.es.length lb.ec,.slice lb.KA b.ks.length lb.kc,.slice lb.DA b.ds.length lb.dc] rfl rfl 86 #[.bool false,.slice none 0 0,.slice none 0 0,.slice none 0 0] ((setRow_other _ _ _ _ (by omega)).trans Z1.out) (by kernel_rfl) rfl (by simp [Value.oneCell']) ?_))
  simp only [Act.put]
  obtain ⟨V,hV⟩:∃ V,V=(((w2.alloc (.cells #[.bool false,.slice none 0 0,.slice none 0 0,.slice none 0 0] 86)).alloc (.cells #[.bool false,.slice none 0 0,.slice none 0 0,.slice none 0 0] 86)).setRow w2.heap.size #[.bool a.leaf,.slice la.EA a.es.length la.ec,.slice la.KA a.ks.length la.kc,.slice la.DA a.ds.length la.dc]).setRow (w2.heap.size+1) #[.bool b.leaf,.slice lb.EA b.es.length lb.ec,.slice lb.KA b.ks.length lb.kc,.slice lb.DA b.ds.length lb.dc]:=⟨_,rfl⟩
  rw [← hV]
  have B2V:Hid (Below w2.heap.size w2 V):=Lib.hid (by rw [hV];exact below_setRow (below_setRow (((Below.refl _ _).alloc (Nat.le_refl _) _).alloc (by simp) _) (Nat.le_refl _) _) (by omega) _)
  have G4:Hid (V.heap[w2.heap.size]?=some (.cells #[.bool a.leaf,.slice la.EA a.es.length la.ec,.slice la.KA a.ks.length la.kc,.slice la.DA a.ds.length la.dc] 86 (0,0))):=Lib.hid (by rw [hV,setRow_other _ _ _ _ (by omega)];exact setRow_heap _ _ _ _ _ _ Z0.out)
  have G5:Hid (V.heap[w2.heap.size+1]?=some (.cells #[.bool b.leaf,.slice lb.EA b.es.length lb.ec,.slice lb.KA b.ks.length lb.kc,.slice lb.DA b.ds.length lb.dc] 86 (0,0))):=Lib.hid (by rw [hV];exact setRow_heap _ _ _ _ _ _ ((setRow_other _ _ _ _ (by omega)).trans Z1.out))
  have NA:=Lib.hid (HNA.out.below B2V.out)
  have NB:=Lib.hid (HNB.out.below B2V.out)
  have BV:Hid (Below w.heap.size w V):=Lib.hid (by
   have h1:=HB1.out.trans (HB2.out.mono HB1.out.size)
   have h2:=h1.trans (B2V.out.mono h1.size)
   exact HB.out.trans (h2.mono HB.out.size))
  clear hV Z0 Z1 HNA HNB HB2 HB1 HG1 HG HN HN1 B2V
  have f4:Hid (∀ y:SubW V.heap.size V,y.at_.heap[w2.heap.size]?=some (.cells #[.bool a.leaf,.slice la.EA a.es.length la.ec,.slice la.KA a.ks.length la.kc,.slice la.DA a.ds.length la.dc] 86 (0,0))):=Lib.hid (fun y=>row_stays G4.out y.ok_)
  have f5:Hid (∀ y:SubW V.heap.size V,y.at_.heap[w2.heap.size+1]?=some (.cells #[.bool b.leaf,.slice lb.EA b.es.length lb.ec,.slice lb.KA b.ks.length lb.kc,.slice lb.DA b.ds.length lb.dc] 86 (0,0))):=Lib.hid (fun y=>row_stays G5.out y.ok_)
  refine region_overB V.heap.size (Nat.le_refl _) [([0,2],1),([],3),([],4)] [5] (by kernel_rfl) (by kernel_rfl) ?_
  rintro wd hbd
  have BD:=Lib.hid hbd
  clear hbd
  rw [wpBl_cons]
  try simp only [List.map_cons,List.map_nil,opAt,List.getElem?_toArray,List.getElem?_cons_zero,List.getElem?_cons_succ,Option.getD_some]
  repeat (first
   | (go_big_quiet_want;refine quiet_load_row 86 (.tmp 4) rfl w2.heap.size rfl 86 _ (0,0) _ f4.out Tryz.underlying86 rfl (by kernel_rfl) ?_;simp only [Act.put,List.setIfInBounds_toArray,List.set_cons_zero,List.set_cons_succ];go_big_quiet_on)
   | (go_big_quiet_want;refine quiet_load_row 86 (.tmp 5) rfl (w2.heap.size+1) rfl 86 _ (0,0) _ f5.out Tryz.underlying86 rfl (by kernel_rfl) ?_;simp only [Act.put,List.setIfInBounds_toArray,List.set_cons_zero,List.set_cons_succ];go_big_quiet_on)
   | go_big_quiet_step (fail))
  refine wpQuiet_nil ?_
  go_wp2_with (go_at_call 62;refine (SA.out la _ (NA.out.below BD.out)).mono ?_;rintro e x1 ⟨A1,c1,ps,rfl,ho1,hp1,hs1,b1⟩;have O1:=Lib.hid (row_mono ho1 (show w.heap.size≤wd.heap.size from by have:=BD.out.size;have:=BV.out.size;omega));have KB:=Lib.hid (fun k (hk:(Value.slice A1 ps.length c1).ownBlock=some k)=>Nat.le_trans BD.out.size (World.ownsRow.lt ho1 k hk).1);have P1:=Lib.hid hp1;have S1:=Lib.hid hs1;have B1:=Lib.hid (BD.out.trans (b1.mono BD.out.size));clear ho1 hp1 hs1 b1)
  refine ⟨⟨⟨_,B1.out⟩,rfl⟩,?_⟩
  rw [wpBl_cons]
  try simp only [List.map_nil,opAt,List.getElem?_toArray,List.getElem?_cons_zero,List.getElem?_cons_succ,Option.getD_some]
  refine wpQuiet_nil ?_
  go_wp2_with (go_at_call 62;refine (SB.out lb _ (NB.out.below B1.out)).mono ?_;rintro e x2 ⟨A2,c2,qs,rfl,ho2,hp2,hs2,b2⟩;have O2:=Lib.hid ho2;have P2:=Lib.hid hp2;have S2:=Lib.hid hs2;have O12:=Lib.hid (row_below O1.out b2);have P12:Hid (∀ p ∈ ps,OwnN x2 w.heap.size p.1 p.2):=Lib.hid (fun p hp=>((P1.out p hp).mono (show w.heap.size≤wd.heap.size from by have:=BD.out.size;have:=BV.out.size;omega)).below b2);have B2:=Lib.hid (B1.out.trans (b2.mono B1.out.size));clear ho2 hp2 hs2 b2)
  refine ⟨⟨⟨_,B2.out⟩,rfl⟩,?_⟩
  rw [wpBl_cons]
  try simp only [List.map_nil,opAt,List.getElem?_toArray,List.getElem?_cons_zero,List.getElem?_cons_succ,Option.getD_some]
  refine wpQuiet_nil ?_
  have KN:Hid (ps.length+qs.length≤1000000000):=Lib.hid (by have h1:=S1.out.cnt;have h2:=S2.out.cnt;have:=HM.out;rw [List.length_map] at h1 h2;omega)
  go_wp2_with (at_builtin;refine wpList_append_row rfl (.tmp 34) (.tmp 36) 82 rfl Tryz.underlying82 (.agg #[.bool false,.slice none 0 0,.slice none 0 0,.slice none 0 0]) 80 infoNodeN (by rfl) (by decide) _ rfl O12.out A2 c2 qs.length rfl (flatV_len lenNdP qs) (row_cellsAt O2.out) (flat_one ndP_one qs) (by have:=KN.out;omega) (by have:=KN.out;unfold maxLen;omega) (by have:=BV.out.size;have:=B2.out.size;omega) (ps ++ qs).length (by rw [List.length_append]) ((ps ++ qs).flatMap ndP) (by rw [List.flatMap_append]) ?_;intro A3 c3 x3 ho3 hg3;have O3:=Lib.hid ho3;have G3:=Lib.hid hg3;clear ho3 hg3)
  have BA:Hid (Below w.heap.size w x2):=Lib.hid (BV.out.trans (B2.out.mono BV.out.size))
  have B3:Hid (Below V.heap.size V x3):=Lib.hid (B2.out.grown G3.out B2.out.size (fun k hk=>KB.out k hk))
  refine ⟨⟨⟨_,B3.out⟩,rfl⟩,?_⟩
  try simp only [Act.put,List.setIfInBounds_toArray,List.set_cons_zero,List.set_cons_succ]
  rw [wpBl_nil]
  try simp only [List.map_cons,List.map_nil,opAt,List.getElem?_toArray,List.getElem?_cons_zero,List.getElem?_cons_succ,Option.getD_some]
  repeat (go_big_quiet_step (fail))
  refine wpQuiet_nil ?_
  go_wp2_with fail
  go_ret
  refine ⟨A3,c3,ps ++ qs,rfl,O3.out,?_,?_,BV.out.trans (B3.out.mono BV.out.size)⟩
  ·intro p hp
   rcases List.mem_append.1 hp with h1 | h1
   ·exact (P12.out p h1).beside O12.out G3.out
   ·exact ((P2.out p h1).mono (by have:=BV.out.size;have:=B1.out.size;omega)).beside O12.out G3.out
  ·rw [List.map_append]
   exact HJ.out _ _ S1.out S2.out
end Go.Proofs.YtgkddhncfaeidaaGreat
