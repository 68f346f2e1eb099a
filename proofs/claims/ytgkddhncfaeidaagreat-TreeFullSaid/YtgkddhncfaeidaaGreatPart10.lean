/- Squeezed: the texts as they are written lie in wip/tpl. -/
import Derived.Test.YtgkddhncfaeidaaGreatPart09
import Derived.Test.YtgkddhncfaeidaaGreatPart04
import Derived.Test.YtgkddhncfaeidaaGreatPart03
set_option maxRecDepth 100000
set_option maxHeartbeats 4000000
set_option linter.unusedSimpArgs false
set_option linter.unusedVariables false
namespace Go.Proofs.YtgkddhncfaeidaaGreat
open Go.ChangeShapes Go.WideShapes Go.ChangeAt Go.RowKit CrcM PageM
theorem infoNodeN:(Tryz.prog.info? 86).map (fun i=>(i.zero,i.size,i.bytes))=some (some (.agg #[.bool false,.slice none 0 0,.slice none 0 0,.slice none 0 0]),4,80):=by kernel_rfl
def ndP (p:NodeD × NdL):List Value:=[.bool p.1.leaf,.slice p.2.EA p.1.es.length p.2.ec,.slice p.2.KA p.1.ks.length p.2.kc,.slice p.2.DA p.1.ds.length p.2.dc]
theorem lenNdP (p:NodeD × NdL):(ndP p).length=4:=rfl
theorem ndP_one (p:NodeD × NdL):∀ u ∈ ndP p,u.oneCell'=true:=by
 intro u hu
 simp [ndP] at hu
 rcases hu with rfl | rfl | rfl | rfl <;> rfl
theorem row_cellsAt {w:World} {base sz n c:Nat} {E:TypeId} {A:Option Addr} {us:List Value} (h:w.ownsRow base E sz (.slice A n c) n us):CellsAt w A us:=fun hne=>by
 obtain ⟨g,hA,_,hc⟩:=row_cells h hne
 exact ⟨g,0,hA,fun k hk=>by rw [Nat.zero_add];exact hc k _ (List.getElem?_eq_getElem hk)⟩
def SplitRet (w:World) (n:NodeD) (e:Ending) (w':World):Prop :=
 ∃ A c,∃ ps:List (NodeD × NdL),e=.returned (.slice A ps.length c)∧w'.ownsRow w.heap.size 86 4 (.slice A ps.length c) ps.length (ps.flatMap ndP)∧(∀ p ∈ ps,OwnN w' w.heap.size p.1 p.2)∧SplitOf n (ps.map Prod.fst)∧Below w.heap.size w w'
theorem split_none (n:NodeD) (l:NdL) (hc:cleanN n) (h0:n.size=0) (w:World) :
 Calls Tryz.prog 62 #[.agg #[.bool n.leaf,.slice l.EA n.es.length l.ec,.slice l.KA n.ks.length l.kc,.slice l.DA n.ds.length l.dc]] w (SplitRet w n):=by
 obtain ⟨W,eW⟩:∃ W,W=w.alloc (.cells #[.bool n.leaf,.slice l.EA n.es.length l.ec,.slice l.KA n.ks.length l.kc,.slice l.DA n.ds.length l.dc] 86):=⟨_,rfl⟩
 have hb:Below w.heap.size w W:=by rw [eW];exact (Below.refl _ _).alloc (Nat.le_refl _) _
 have hg:W.heap[w.heap.size]?=some (.cells #[.bool n.leaf,.slice l.EA n.es.length l.ec,.slice l.KA n.ks.length l.kc,.slice l.DA n.ds.length l.dc] 86 (0,0)):=by rw [eW];exact heap_alloc_new _ _
 have hWs:W.heap.size=w.heap.size+1:=by rw [eW];simp
 have HB:=Lib.hid hb
 have HG:=Lib.hid hg
 have HWS:=Lib.hid hWs
 have HC:=Lib.hid hc
 have H0:=Lib.hid h0
 have HS:Hid (∀ W',Calls Tryz.prog 52 #[.agg #[.bool n.leaf,.slice l.EA n.es.length l.ec,.slice l.KA n.ks.length l.kc,.slice l.DA n.ds.length l.dc]] W' fun e w'=>e=.returned (.int .i64 0)∧Below W'.heap.size W' w'):=Lib.hid (fun W'=>by have:=size_any n l W';rw [h0] at this;exact this)
 clear hb hg hWs hc h0
 go_enter Tryz.func62,Tryz.ntmps62
 go_upto_region 1 with fail
 rw [← eW]
 clear eW
 go_wp2_with (first
  | (refine wpList_load_row rfl 86 (.tmp 1) rfl w.heap.size rfl 86 _ (0,0) _ HG.out Tryz.underlying86 rfl (by kernel_rfl) ?_)
  | (go_at_call 52;refine (HS.out _).mono ?_;rintro e w1 ⟨rfl,hb1⟩;have HB1:=Lib.hid hb1;clear hb1))
 go_ret
 exact ⟨none,0,[],rfl,World.ownsRow_nil _ _ _ _,by simp,SplitOf.zero HC.out H0.out,HB.out.trans (HB1.out.mono HB.out.size)⟩
theorem split_one (n:NodeD) (l:NdL) (hc:cleanN n) (h1:1≤n.size) (h2:n.size≤capN n.leaf) (hf:FitsN n) (w:World) (hat:NodeAt w n l) :
 Calls Tryz.prog 62 #[.agg #[.bool n.leaf,.slice l.EA n.es.length l.ec,.slice l.KA n.ks.length l.kc,.slice l.DA n.ds.length l.dc]] w (SplitRet w n):=by
 obtain ⟨W,eW⟩:∃ W,W=w.alloc (.cells #[.bool n.leaf,.slice l.EA n.es.length l.ec,.slice l.KA n.ks.length l.kc,.slice l.DA n.ds.length l.dc] 86):=⟨_,rfl⟩
 have hb:Below w.heap.size w W:=by rw [eW];exact (Below.refl _ _).alloc (Nat.le_refl _) _
 have hg:W.heap[w.heap.size]?=some (.cells #[.bool n.leaf,.slice l.EA n.es.length l.ec,.slice l.KA n.ks.length l.kc,.slice l.DA n.ds.length l.dc] 86 (0,0)):=by rw [eW];exact heap_alloc_new _ _
 have hWs:W.heap.size=w.heap.size+1:=by rw [eW];simp
 have HB:=Lib.hid hb
 have HG:=Lib.hid hg
 have HWS:=Lib.hid hWs
 have HC:=Lib.hid hc
 have HF:=Lib.hid hf
 have HN:=Lib.hid (hat.below hb)
 obtain ⟨s,hs⟩:∃ s,n.size=s:=⟨_,rfl⟩
 have HS:Hid (∀ W',Calls Tryz.prog 52 #[.agg #[.bool n.leaf,.slice l.EA n.es.length l.ec,.slice l.KA n.ks.length l.kc,.slice l.DA n.ds.length l.dc]] W' fun e w'=>e=.returned (.int .i64 (s:Int))∧Below W'.heap.size W' w'):=Lib.hid (fun W'=>by have:=size_any n l W';rw [hs] at this;exact this)
 have HP:=Lib.hid (SplitOf.single hc h1 h2)
 rw [hs] at h1 h2
 have hl:n.leaf=true∧s≤7∨n.leaf=false∧s≤16:=by unfold capN at h2;cases hq:n.leaf <;> rw [hq] at h2 <;> simp at h2 <;> simp <;> omega
 have q0:((s:Int) == 0)=false:=by simp;omega
 clear hb hg hWs hc hf hs hat
 rcases hl with ⟨hl,h7⟩ | ⟨hl,h7⟩
 ·have q7:decide ((s:Int)≤7)=true:=by simp;omega
  have HLF:=Lib.hid hl
  clear hl
  go_enter Tryz.func62,Tryz.ntmps62
  go_upto_region 1 with fail
  rw [← eW]
  clear eW
  go_upto_region 4 with (first
   | (refine wpList_load_row rfl 86 (.tmp 1) rfl w.heap.size rfl 86 _ (0,0) _ HG.out Tryz.underlying86 rfl (by kernel_rfl) ?_)
   | (go_at_call 52;refine (HS.out _).mono ?_;rintro e w1 ⟨rfl,hb1⟩;have HB1:=Lib.hid hb1;clear hb1))
  have d0:w1.cell? ⟨w.heap.size,0,none⟩=some (.bool true):=by rw [← HLF.out];exact nd_cell (row_stays HG.out HB1.out) 0 _ rfl
  have HG1:=Lib.hid (row_stays HG.out HB1.out)
  go_upto_region 5 with fail
  clear d0
  have HN1:=Lib.hid (HN.out.below HB1.out)
  go_wp2_with (first
   | (refine wpList_load_row rfl 86 (.tmp 1) rfl w.heap.size rfl 86 _ (0,0) _ HG1.out Tryz.underlying86 rfl (by kernel_rfl) ?_)
   | (go_at_call 94;refine (nclone_any n l HF.out _ HN1.out).mono ?_;rintro e w2 ⟨l2,rfl,ho2,hb2⟩;have HO2:=Lib.hid ho2;have HB2:=Lib.hid hb2;clear ho2 hb2))
  go_ret
  have hba:Below w2.heap.size w2 (w2.alloc (.cells #[.bool n.leaf,.slice l2.EA n.es.length l2.ec,.slice l2.KA n.ks.length l2.kc,.slice l2.DA n.ds.length l2.dc] 86)):=(Below.refl _ _).alloc (Nat.le_refl _) _
  have hz:w.heap.size≤w1.heap.size:=by have:=HB1.out.size;have:=HB.out.size;omega
  have hz2:w.heap.size≤w2.heap.size:=by have:=HB2.out.size;omega
  refine ⟨some ⟨w2.heap.size,0,none⟩,1,[(n,l2)],rfl,⟨rfl,.inr ⟨w2.heap.size,1,_,rfl,hz2,heap_alloc_new _ _,Nat.le_refl _,by unfold maxLen;simp,rfl,rfl⟩⟩,?_,HP.out,?_⟩
  ·intro p hp
   simp at hp
   subst hp
   exact (HO2.out.below hba).mono hz
  ·exact (HB.out.trans (HB1.out.mono HB.out.size)).trans ((HB2.out.trans (hba.mono HB2.out.size)).mono hz)
 ·have q7:decide ((s:Int)≤16)=true:=by simp;omega
  have HLF:=Lib.hid hl
  clear hl
  go_enter Tryz.func62,Tryz.ntmps62
  go_upto_region 1 with fail
  rw [← eW]
  clear eW
  go_upto_region 4 with (first
   | (refine wpList_load_row rfl 86 (.tmp 1) rfl w.heap.size rfl 86 _ (0,0) _ HG.out Tryz.underlying86 rfl (by kernel_rfl) ?_)
   | (go_at_call 52;refine (HS.out _).mono ?_;rintro e w1 ⟨rfl,hb1⟩;have HB1:=Lib.hid hb1;clear hb1))
  have d0:w1.cell? ⟨w.heap.size,0,none⟩=some (.bool false):=by rw [← HLF.out];exact nd_cell (row_stays HG.out HB1.out) 0 _ rfl
  have HG1:=Lib.hid (row_stays HG.out HB1.out)
  go_upto_region 5 with fail
  clear d0
  have HN1:=Lib.hid (HN.out.below HB1.out)
  go_wp2_with (first
   | (refine wpList_load_row rfl 86 (.tmp 1) rfl w.heap.size rfl 86 _ (0,0) _ HG1.out Tryz.underlying86 rfl (by kernel_rfl) ?_)
   | (go_at_call 94;refine (nclone_any n l HF.out _ HN1.out).mono ?_;rintro e w2 ⟨l2,rfl,ho2,hb2⟩;have HO2:=Lib.hid ho2;have HB2:=Lib.hid hb2;clear ho2 hb2))
  go_ret
  have hba:Below w2.heap.size w2 (w2.alloc (.cells #[.bool n.leaf,.slice l2.EA n.es.length l2.ec,.slice l2.KA n.ks.length l2.kc,.slice l2.DA n.ds.length l2.dc] 86)):=(Below.refl _ _).alloc (Nat.le_refl _) _
  have hz:w.heap.size≤w1.heap.size:=by have:=HB1.out.size;have:=HB.out.size;omega
  have hz2:w.heap.size≤w2.heap.size:=by have:=HB2.out.size;omega
  refine ⟨some ⟨w2.heap.size,0,none⟩,1,[(n,l2)],rfl,⟨rfl,.inr ⟨w2.heap.size,1,_,rfl,hz2,heap_alloc_new _ _,Nat.le_refl _,by unfold maxLen;simp,rfl,rfl⟩⟩,?_,HP.out,?_⟩
  ·intro p hp
   simp at hp
   subst hp
   exact (HO2.out.below hba).mono hz
  ·exact (HB.out.trans (HB1.out.mono HB.out.size)).trans ((HB2.out.trans (hba.mono HB2.out.size)).mono hz)
theorem split_two (n a b:NodeD) (l:NdL) (hc:cleanN n) (h2:capN n.leaf<n.size) (h:Nat) (hh:h=(n.size+1) / 2) (ha:a=partA n h) (hbb:b=partB n h) (hm:n.size≤1000000000) (w:World) (hat:NodeAt w n l)
 (hv:∀ W',NodeAt W' n l→Calls Tryz.prog 95 #[.agg #[.bool n.leaf,.slice l.EA n.es.length l.ec,.slice l.KA n.ks.length l.kc,.slice l.DA n.ds.length l.dc]] W' fun e w'=>(∃ la lb:NdL,e=.returned (.tuple #[.agg #[.bool a.leaf,.slice la.EA a.es.length la.ec,.slice la.KA a.ks.length la.kc,.slice la.DA a.ds.length la.dc],.agg #[.bool b.leaf,.slice lb.EA b.es.length lb.ec,.slice lb.KA b.ks.length lb.kc,.slice lb.DA b.ds.length lb.dc]])∧NodeAt w' a la∧NodeAt w' b lb)∧Below W'.heap.size W' w')
 (sa:∀ (la:NdL) W',NodeAt W' a la→Calls Tryz.prog 62 #[.agg #[.bool a.leaf,.slice la.EA a.es.length la.ec,.slice la.KA a.ks.length la.kc,.slice la.DA a.ds.length la.dc]] W' (SplitRet W' a)) (sb:∀ (lb:NdL) W',NodeAt W' b lb→Calls Tryz.prog 62 #[.agg #[.bool b.leaf,.slice lb.EA b.es.length lb.ec,.slice lb.KA b.ks.length lb.kc,.slice lb.DA b.ds.length lb.dc]] W' (SplitRet W' b)) :
 Calls Tryz.prog 62 #[.agg #[.bool n.leaf,.slice l.EA n.es.length l.ec,.slice l.KA n.ks.length l.kc,.slice l.DA n.ds.length l.dc]] w (SplitRet w n):=by
 obtain ⟨W,eW⟩:∃ W,W=w.alloc (.cells #[.bool n.leaf,.slice l.EA n.es.length l.ec,.slice l.KA n.ks.length l.kc,.slice l.DA n.ds.length l.dc] 86):=⟨_,rfl⟩
 have hb:Below w.heap.size w W:=by rw [eW];exact (Below.refl _ _).alloc (Nat.le_refl _) _
 have hg:W.heap[w.heap.size]?=some (.cells #[.bool n.leaf,.slice l.EA n.es.length l.ec,.slice l.KA n.ks.length l.kc,.slice l.DA n.ds.length l.dc] 86 (0,0)):=by rw [eW];exact heap_alloc_new _ _
 have hWs:W.heap.size=w.heap.size+1:=by rw [eW];simp
 have HB:=Lib.hid hb
 have HG:=Lib.hid hg
 have HWS:=Lib.hid hWs
 have HC:=Lib.hid hc
 have HN:=Lib.hid (hat.below hb)
 have HV:=Lib.hid hv
 have SA:=Lib.hid sa
 have SB:=Lib.hid sb
 have HJ:Hid (∀ ps qs,SplitOf a ps→SplitOf b qs→SplitOf n (ps ++ qs)):=Lib.hid (fun ps qs h1 h3=>by subst ha hbb;exact SplitOf.join h2 h hh h1 h3)
 have HM:Hid (a.size+b.size≤1000000000):=Lib.hid (by rw [ha,hbb,partA_size n h (by omega),partB_size n h];omega)
 obtain ⟨s,hs⟩:∃ s,n.size=s:=⟨_,rfl⟩
 have HS:Hid (∀ W',Calls Tryz.prog 52 #[.agg #[.bool n.leaf,.slice l.EA n.es.length l.ec,.slice l.KA n.ks.length l.kc,.slice l.DA n.ds.length l.dc]] W' fun e w'=>e=.returned (.int .i64 (s:Int))∧Below W'.heap.size W' w'):=Lib.hid (fun W'=>by have:=size_any n l W';rw [hs] at this;exact this)
 rw [hs] at h2
 have hl:n.leaf=true∧7<s∨n.leaf=false∧16<s:=by unfold capN at h2;cases hq:n.leaf <;> rw [hq] at h2 <;> simp at h2 <;> simp <;> omega
 have q0:((s:Int) == 0)=false:=by simp;omega
 clear hb hg hWs hc hs hat hv sa sb ha hbb hh hm h2
 rcases hl with ⟨hl,h7⟩ | ⟨hl,h7⟩
 ·have q7:decide ((s:Int)≤7)=false:=by simp;omega
  have HLF:=Lib.hid hl
  clear hl
  go_enter Tryz.func62,Tryz.ntmps62
  go_upto_region 1 with fail
  rw [← eW]
  clear eW
  go_upto_region 4 with (first
   | (refine wpList_load_row rfl 86 (.tmp 1) rfl w.heap.size rfl 86 _ (0,0) _ HG.out Tryz.underlying86 rfl (by kernel_rfl) ?_)
   | (go_at_call 52;refine (HS.out _).mono ?_;rintro e w1 ⟨rfl,hb1⟩;have HB1:=Lib.hid hb1;clear hb1))
  have d0:w1.cell? ⟨w.heap.size,0,none⟩=some (.bool true):=by rw [← HLF.out];exact nd_cell (row_stays HG.out HB1.out) 0 _ rfl
  have HG1:=Lib.hid (row_stays HG.out HB1.out)
  go_upto_region 6 with fail
  clear d0 q0 q7 h7
  have HN1:=Lib.hid (HN.out.below HB1.out)
  go_upto_region 7 with (first
   | (refine wpList_load_row rfl 86 (.tmp 1) rfl w.heap.size rfl 86 _ (0,0) _ HG1.out Tryz.underlying86 rfl (by kernel_rfl) ?_)
   | (go_at_call 95;refine (HV.out _ HN1.out).mono ?_;rintro e w2 ⟨⟨la,lb,rfl,hna,hnb⟩,hb2⟩;have HNA:=Lib.hid hna;have HNB:=Lib.hid hnb;have HB2:=Lib.hid hb2;clear hna hnb hb2;have Z0:=Lib.hid (heap_alloc2_old w2 (.cells #[.bool false,.slice none 0 0,.slice none 0 0,.slice none 0 0] 86) (.cells #[.bool false,.slice none 0 0,.slice none 0 0,.slice none 0 0] 86));have Z1:=Lib.hid (heap_alloc2_new w2 (.cells #[.bool false,.slice none 0 0,.slice none 0 0,.slice none 0 0] 86) (.cells #[.bool false,.slice none 0 0,.slice none 0 0,.slice none 0 0] 86)))
   | (refine wpList_store_row rfl 86 (.tmp 4) (.tmp 31) rfl w2.heap.size #[.bool a.leaf,.slice la.EA a.es.length la.ec,.slice la.KA a.ks.length la.kc,.slice la.DA a.ds.length la.dc] rfl rfl 86 #[.bool false,.slice none 0 0,.slice none 0 0,.slice none 0 0] Z0.out (by kernel_rfl) rfl (by simp [Value.oneCell']) ?_)
   | (refine wpList_store_row rfl 86 (.tmp 5) (.tmp 32) rfl (w2.heap.size+1) #[.bool b.leaf,.slice lb.EA b.es.length lb.ec,.slice lb.KA b.ks.length lb.kc,.slice lb.DA b.ds.length lb.dc] rfl rfl 86 #[.bool false,.slice none 0 0,.slice none 0 0,.slice none 0 0] ((setRow_other _ _ _ _ (by omega)).trans Z1.out) (by kernel_rfl) rfl (by simp [Value.oneCell']) ?_))
  simp only [Act.put]
  obtain ⟨V,hV⟩:∃ V,V=(((w2.alloc (.cells #[.bool false,.slice none 0 0,.slice none 0 0,.slice none 0 0] 86)).alloc (.cells #[.bool false,.slice none 0 0,.slice none 0 0,.slice none 0 0] 86)).setRow w2.heap.size #[.bool a.leaf,.slice la.EA a.es.length la.ec,.slice la.KA a.ks.length la.kc,.slice la.DA a.ds.length la.dc]).setRow (w2.heap.size+1) #[.bool b.leaf,.slice lb.EA b.es.length lb.ec,.slice lb.KA b.ks.length lb.kc,.slice lb.DA b.ds.length lb.dc]:=⟨_,rfl⟩
  rw [← hV]
  have B2V:Hid (Below w2.heap.size w2 V):=Lib.hid (by rw [hV];exact below_setRow (below_setRow (((Below.refl _ _).alloc (Nat.le_refl _) _).alloc (by simp) _) (Nat.le_refl _) _) (by omega) _)
  have G4:Hid (V.heap[w2.heap.size]?=some (.cells #[.bool a.leaf,.slice la.EA a.es.length la.ec,.slice la.KA a.ks.length la.kc,.slice la.DA a.ds.length la.dc] 86 (0,0))):=Lib.hid (by rw [hV,setRow_other _ _ _ _ (by omega)];exact setRow_heap _ _ _ _ _ _ Z0.out)
  have G5:Hid (V.heap[w2.heap.size+1]?=some (.cells #[.bool b.leaf,.slice lb.EA b.es.length lb.ec,.slice lb.KA b.ks.length lb.kc,.slice lb.DA b.ds.length lb.dc] 86 (0,0))):=Lib.hid (by rw [hV];exact setRow_heap _ _ _ _ _ _ ((setRow_other _ _ _ _ (by omega)).trans Z1.out))
  have NA:=Lib.hid (HNA.out.below B2V.out)
  have NB:=Lib.hid (HNB.out.below B2V.out)
  have BV:Hid (Below w.heap.size w V):=Lib.hid (by
   have h1:=HB1.out.trans (HB2.out.mono HB1.out.size)
   have h2:=h1.trans (B2V.out.mono h1.size)
   exact HB.out.trans (h2.mono HB.out.size))
  clear hV Z0 Z1 HNA HNB HB2 HB1 HG1 HG HN HN1 B2V
  have f4:Hid (∀ y:SubW V.heap.size V,y.at_.heap[w2.heap.size]?=some (.cells #[.bool a.leaf,.slice la.EA a.es.length la.ec,.slice la.KA a.ks.length la.kc,.slice la.DA a.ds.length la.dc] 86 (0,0))):=Lib.hid (fun y=>row_stays G4.out y.ok_)
  have f5:Hid (∀ y:SubW V.heap.size V,y.at_.heap[w2.heap.size+1]?=some (.cells #[.bool b.leaf,.slice lb.EA b.es.length lb.ec,.slice lb.KA b.ks.length lb.kc,.slice lb.DA b.ds.length lb.dc] 86 (0,0))):=Lib.hid (fun y=>row_stays G5.out y.ok_)
  refine region_overB V.heap.size (Nat.le_refl _) [([0,2],1),([],3),([],4)] [5] (by kernel_rfl) (by kernel_rfl) ?_
  rintro wd hbd
  have BD:=Lib.hid hbd
  clear hbd
  rw [wpBl_cons]
  try simp only [List.map_cons,List.map_nil,opAt,List.getElem?_toArray,List.getElem?_cons_zero,List.getElem?_cons_succ,Option.getD_some]
  repeat (first
   | (go_big_quiet_want;refine quiet_load_row 86 (.tmp 4) rfl w2.heap.size rfl 86 _ (0,0) _ f4.out Tryz.underlying86 rfl (by kernel_rfl) ?_;simp only [Act.put,List.setIfInBounds_toArray,List.set_cons_zero,List.set_cons_succ];go_big_quiet_on)
   | (go_big_quiet_want;refine quiet_load_row 86 (.tmp 5) rfl (w2.heap.size+1) rfl 86 _ (0,0) _ f5.out Tryz.underlying86 rfl (by kernel_rfl) ?_;simp only [Act.put,List.setIfInBounds_toArray,List.set_cons_zero,List.set_cons_succ];go_big_quiet_on)
   | go_big_quiet_step (fail))
  refine wpQuiet_nil ?_
  go_wp2_with (go_at_call 62;refine (SA.out la _ (NA.out.below BD.out)).mono ?_;rintro e x1 ⟨A1,c1,ps,rfl,ho1,hp1,hs1,b1⟩;have O1:=Lib.hid (row_mono ho1 (show w.heap.size≤wd.heap.size from by have:=BD.out.size;have:=BV.out.size;omega));have KB:=Lib.hid (fun k (hk:(Value.slice A1 ps.length c1).ownBlock=some k)=>Nat.le_trans BD.out.size (World.ownsRow.lt ho1 k hk).1);have P1:=Lib.hid hp1;have S1:=Lib.hid hs1;have B1:=Lib.hid (BD.out.trans (b1.mono BD.out.size));clear ho1 hp1 hs1 b1)
  refine ⟨⟨⟨_,B1.out⟩,rfl⟩,?_⟩
  rw [wpBl_cons]
  try simp only [List.map_nil,opAt,List.getElem?_toArray,List.getElem?_cons_zero,List.getElem?_cons_succ,Option.getD_some]
  refine wpQuiet_nil ?_
  go_wp2_with (go_at_call 62;refine (SB.out lb _ (NB.out.below B1.out)).mono ?_;rintro e x2 ⟨A2,c2,qs,rfl,ho2,hp2,hs2,b2⟩;have O2:=Lib.hid ho2;have P2:=Lib.hid hp2;have S2:=Lib.hid hs2;have O12:=Lib.hid (row_below O1.out b2);have P12:Hid (∀ p ∈ ps,OwnN x2 w.heap.size p.1 p.2):=Lib.hid (fun p hp=>((P1.out p hp).mono (show w.heap.size≤wd.heap.size from by have:=BD.out.size;have:=BV.out.size;omega)).below b2);have B2:=Lib.hid (B1.out.trans (b2.mono B1.out.size));clear ho2 hp2 hs2 b2)
  refine ⟨⟨⟨_,B2.out⟩,rfl⟩,?_⟩
  rw [wpBl_cons]
  try simp only [List.map_nil,opAt,List.getElem?_toArray,List.getElem?_cons_zero,List.getElem?_cons_succ,Option.getD_some]
  refine wpQuiet_nil ?_
  have KN:Hid (ps.length+qs.length≤1000000000):=Lib.hid (by have h1:=S1.out.cnt;have h2:=S2.out.cnt;have:=HM.out;rw [List.length_map] at h1 h2;omega)
  go_wp2_with (at_builtin;refine wpList_append_row rfl (.tmp 34) (.tmp 36) 82 rfl Tryz.underlying82 (.agg #[.bool false,.slice none 0 0,.slice none 0 0,.slice none 0 0]) 80 infoNodeN (by rfl) (by decide) _ rfl O12.out A2 c2 qs.length rfl (flatV_len lenNdP qs) (row_cellsAt O2.out) (flat_one ndP_one qs) (by have:=KN.out;omega) (by have:=KN.out;unfold maxLen;omega) (by have:=BV.out.size;have:=B2.out.size;omega) (ps ++ qs).length (by rw [List.length_append]) ((ps ++ qs).flatMap ndP) (by rw [List.flatMap_append]) ?_;intro A3 c3 x3 ho3 hg3;have O3:=Lib.hid ho3;have G3:=Lib.hid hg3;clear ho3 hg3)
  have BA:Hid (Below w.heap.size w x2):=Lib.hid (BV.out.trans (B2.out.mono BV.out.size))
  have B3:Hid (Below V.heap.size V x3):=Lib.hid (B2.out.grown G3.out B2.out.size (fun k hk=>KB.out k hk))
  refine ⟨⟨⟨_,B3.out⟩,rfl⟩,?_⟩
  try simp only [Act.put,List.setIfInBounds_toArray,List.set_cons_zero,List.set_cons_succ]
  rw [wpBl_nil]
  try simp only [List.map_cons,List.map_nil,opAt,List.getElem?_toArray,List.getElem?_cons_zero,List.getElem?_cons_succ,Option.getD_some]
  repeat (go_big_quiet_step (fail))
  refine wpQuiet_nil ?_
  go_wp2_with fail
  go_ret
  refine ⟨A3,c3,ps ++ qs,rfl,O3.out,?_,?_,BV.out.trans (B3.out.mono BV.out.size)⟩
  ·intro p hp
   rcases List.mem_append.1 hp with h1 | h1
   ·exact (P12.out p h1).beside O12.out G3.out
   ·exact ((P2.out p h1).mono (by have:=BV.out.size;have:=B1.out.size;omega)).beside O12.out G3.out
  ·rw [List.map_append]
   exact HJ.out _ _ S1.out S2.out
 ·have q7:decide ((s:Int)≤16)=false:=by simp;omega
  have HLF:=Lib.hid hl
  clear hl
  go_enter Tryz.func62,Tryz.ntmps62
  go_upto_region 1 with fail
  rw [← eW]
  clear eW
  go_upto_region 4 with (first
   | (refine wpList_load_row rfl 86 (.tmp 1) rfl w.heap.size rfl 86 _ (0,0) _ HG.out Tryz.underlying86 rfl (by kernel_rfl) ?_)
   | (go_at_call 52;refine (HS.out _).mono ?_;rintro e w1 ⟨rfl,hb1⟩;have HB1:=Lib.hid hb1;clear hb1))
  have d0:w1.cell? ⟨w.heap.size,0,none⟩=some (.bool false):=by rw [← HLF.out];exact nd_cell (row_stays HG.out HB1.out) 0 _ rfl
  have HG1:=Lib.hid (row_stays HG.out HB1.out)
  go_upto_region 6 with fail
  clear d0 q0 q7 h7
  have HN1:=Lib.hid (HN.out.below HB1.out)
  go_upto_region 7 with (first
   | (refine wpList_load_row rfl 86 (.tmp 1) rfl w.heap.size rfl 86 _ (0,0) _ HG1.out Tryz.underlying86 rfl (by kernel_rfl) ?_)
   | (go_at_call 95;refine (HV.out _ HN1.out).mono ?_;rintro e w2 ⟨⟨la,lb,rfl,hna,hnb⟩,hb2⟩;have HNA:=Lib.hid hna;have HNB:=Lib.hid hnb;have HB2:=Lib.hid hb2;clear hna hnb hb2;have Z0:=Lib.hid (heap_alloc2_old w2 (.cells #[.bool false,.slice none 0 0,.slice none 0 0,.slice none 0 0] 86) (.cells #[.bool false,.slice none 0 0,.slice none 0 0,.slice none 0 0] 86));have Z1:=Lib.hid (heap_alloc2_new w2 (.cells #[.bool false,.slice none 0 0,.slice none 0 0,.slice none 0 0] 86) (.cells #[.bool false,.slice none 0 0,.slice none 0 0,.slice none 0 0] 86)))
   | (refine wpList_store_row rfl 86 (.tmp 4) (.tmp 31) rfl w2.heap.size #[.bool a.leaf,.slice la.EA a.es.length la.ec,.slice la.KA a.ks.length la.kc,.slice la.DA a.ds.length la.dc] rfl rfl 86 #[.bool false,.slice none 0 0,.slice none 0 0,.slice none 0 0] Z0.out (by kernel_rfl) rfl (by simp [Value.oneCell']) ?_)
   | (refine wpList_store_row rfl 86 (.tmp 5) (.tmp 32) rfl (w2.heap.size+1) #[.bool b.leaf,.slice lb.EA b.es.length lb.ec,.slice lb.KA b.ks.length lb.kc,.slice lb.DA b.ds.length lb.dc] rfl rfl 86 #[.bool false,.slice none 0 0,.slice none 0 0,.slice none 0 0] ((setRow_other _ _ _ _ (by omega)).trans Z1.out) (by kernel_rfl) rfl (by simp [Value.oneCell']) ?_))
  simp only [Act.put]
  obtain ⟨V,hV⟩:∃ V,V=(((w2.alloc (.cells #[.bool false,.slice none 0 0,.slice none 0 0,.slice none 0 0] 86)).alloc (.cells #[.bool false,.slice none 0 0,.slice none 0 0,.slice none 0 0] 86)).setRow w2.heap.size #[.bool a.leaf,.slice la.EA a.es.length la.ec,.slice la.KA a.ks.length la.kc,.slice la.DA a.ds.length la.dc]).setRow (w2.heap.size+1) #[.bool b.leaf,.slice lb.EA b.es.length lb.ec,.slice lb.KA b.ks.length lb.kc,.slice lb.DA b.ds.length lb.dc]:=⟨_,rfl⟩
  rw [← hV]
  have B2V:Hid (Below w2.heap.size w2 V):=Lib.hid (by rw [hV];exact below_setRow (below_setRow (((Below.refl _ _).alloc (Nat.le_refl _) _).alloc (by simp) _) (Nat.le_refl _) _) (by omega) _)
  have G4:Hid (V.heap[w2.heap.size]?=some (.cells #[.bool a.leaf,.slice la.EA a.es.length la.ec,.slice la.KA a.ks.length la.kc,.slice la.DA a.ds.length la.dc] 86 (0,0))):=Lib.hid (by rw [hV,setRow_other _ _ _ _ (by omega)];exact setRow_heap _ _ _ _ _ _ Z0.out)
  have G5:Hid (V.heap[w2.heap.size+1]?=some (.cells #[.bool b.leaf,.slice lb.EA b.es.length lb.ec,.slice lb.KA b.ks.length lb.kc,.slice lb.DA b.ds.length lb.dc] 86 (0,0))):=Lib.hid (by rw [hV];exact setRow_heap _ _ _ _ _ _ ((setRow_other _ _ _ _ (by omega)).trans Z1.out))
  have NA:=Lib.hid (HNA.out.below B2V.out)
  have NB:=Lib.hid (HNB.out.below B2V.out)
  have BV:Hid (Below w.heap.size w V):=Lib.hid (by
   have h1:=HB1.out.trans (HB2.out.mono HB1.out.size)
   have h2:=h1.trans (B2V.out.mono h1.size)
   exact HB.out.trans (h2.mono HB.out.size))
  clear hV Z0 Z1 HNA HNB HB2 HB1 HG1 HG HN HN1 B2V
  have f4:Hid (∀ y:SubW V.heap.size V,y.at_.heap[w2.heap.size]?=some (.cells #[.bool a.leaf,.slice la.EA a.es.length la.ec,.slice la.KA a.ks.length la.kc,.slice la.DA a.ds.length la.dc] 86 (0,0))):=Lib.hid (fun y=>row_stays G4.out y.ok_)
  have f5:Hid (∀ y:SubW V.heap.size V,y.at_.heap[w2.heap.size+1]?=some (.cells #[.bool b.leaf,.slice lb.EA b.es.length lb.ec,.slice lb.KA b.ks.length lb.kc,.slice lb.DA b.ds.length lb.dc] 86 (0,0))):=Lib.hid (fun y=>row_stays G5.out y.ok_)
  refine region_overB V.heap.size (Nat.le_refl _) [([0,2],1),([],3),([],4)] [5] (by kernel_rfl) (by kernel_rfl) ?_
  rintro wd hbd
  have BD:=Lib.hid hbd
  clear hbd
  rw [wpBl_cons]
  try simp only [List.map_cons,List.map_nil,opAt,List.getElem?_toArray,List.getElem?_cons_zero,List.getElem?_cons_succ,Option.getD_some]
  repeat (first
   | (go_big_quiet_want;refine quiet_load_row 86 (.tmp 4) rfl w2.heap.size rfl 86 _ (0,0) _ f4.out Tryz.underlying86 rfl (by kernel_rfl) ?_;simp only [Act.put,List.setIfInBounds_toArray,List.set_cons_zero,List.set_cons_succ];go_big_quiet_on)
   | (go_big_quiet_want;refine quiet_load_row 86 (.tmp 5) rfl (w2.heap.size+1) rfl 86 _ (0,0) _ f5.out Tryz.underlying86 rfl (by kernel_rfl) ?_;simp only [Act.put,List.setIfInBounds_toArray,List.set_cons_zero,List.set_cons_succ];go_big_quiet_on)
   | go_big_quiet_step (fail))
  refine wpQuiet_nil ?_
  go_wp2_with (go_at_call 62;refine (SA.out la _ (NA.out.below BD.out)).mono ?_;rintro e x1 ⟨A1,c1,ps,rfl,ho1,hp1,hs1,b1⟩;have O1:=Lib.hid (row_mono ho1 (show w.heap.size≤wd.heap.size from by have:=BD.out.size;have:=BV.out.size;omega));have KB:=Lib.hid (fun k (hk:(Value.slice A1 ps.length c1).ownBlock=some k)=>Nat.le_trans BD.out.size (World.ownsRow.lt ho1 k hk).1);have P1:=Lib.hid hp1;have S1:=Lib.hid hs1;have B1:=Lib.hid (BD.out.trans (b1.mono BD.out.size));clear ho1 hp1 hs1 b1)
  refine ⟨⟨⟨_,B1.out⟩,rfl⟩,?_⟩
  rw [wpBl_cons]
  try simp only [List.map_nil,opAt,List.getElem?_toArray,List.getElem?_cons_zero,List.getElem?_cons_succ,Option.getD_some]
  refine wpQuiet_nil ?_
  go_wp2_with (go_at_call 62;refine (SB.out lb _ (NB.out.below B1.out)).mono ?_;rintro e x2 ⟨A2,c2,qs,rfl,ho2,hp2,hs2,b2⟩;have O2:=Lib.hid ho2;have P2:=Lib.hid hp2;have S2:=Lib.hid hs2;have O12:=Lib.hid (row_below O1.out b2);have P12:Hid (∀ p ∈ ps,OwnN x2 w.heap.size p.1 p.2):=Lib.hid (fun p hp=>((P1.out p hp).mono (show w.heap.size≤wd.heap.size from by have:=BD.out.size;have:=BV.out.size;omega)).below b2);have B2:=Lib.hid (B1.out.trans (b2.mono B1.out.size));clear ho2 hp2 hs2 b2)
  refine ⟨⟨⟨_,B2.out⟩,rfl⟩,?_⟩
  rw [wpBl_cons]
  try simp only [List.map_nil,opAt,List.getElem?_toArray,List.getElem?_cons_zero,List.getElem?_cons_succ,Option.getD_some]
  refine wpQuiet_nil ?_
  have KN:Hid (ps.length+qs.length≤1000000000):=Lib.hid (by have h1:=S1.out.cnt;have h2:=S2.out.cnt;have:=HM.out;rw [List.length_map] at h1 h2;omega)
  go_wp2_with (at_builtin;refine wpList_append_row rfl (.tmp 34) (.tmp 36) 82 rfl Tryz.underlying82 (.agg #[.bool false,.slice none 0 0,.slice none 0 0,.slice none 0 0]) 80 infoNodeN (by rfl) (by decide) _ rfl O12.out A2 c2 qs.length rfl (flatV_len lenNdP qs) (row_cellsAt O2.out) (flat_one ndP_one qs) (by have:=KN.out;omega) (by have:=KN.out;unfold maxLen;omega) (by have:=BV.out.size;have:=B2.out.size;omega) (ps ++ qs).length (by rw [List.length_append]) ((ps ++ qs).flatMap ndP) (by rw [List.flatMap_append]) ?_;intro A3 c3 x3 ho3 hg3;have O3:=Lib.hid ho3;have G3:=Lib.hid hg3;clear ho3 hg3)
  have BA:Hid (Below w.heap.size w x2):=Lib.hid (BV.out.trans (B2.out.mono BV.out.size))
  have B3:Hid (Below V.heap.size V x3):=Lib.hid (B2.out.grown G3.out B2.out.size (fun k hk=>KB.out k hk))
  refine ⟨⟨⟨_,B3.out⟩,rfl⟩,?_⟩
  try simp only [Act.put,List.setIfInBounds_toArray,List.set_cons_zero,List.set_cons_succ]
  rw [wpBl_nil]
  try simp only [List.map_cons,List.map_nil,opAt,List.getElem?_toArray,List.getElem?_cons_zero,List.getElem?_cons_succ,Option.getD_some]
  repeat (go_big_quiet_step (fail))
  refine wpQuiet_nil ?_
  go_wp2_with fail
  go_ret
  refine ⟨A3,c3,ps ++ qs,rfl,O3.out,?_,?_,BV.out.trans (B3.out.mono BV.out.size)⟩
  ·intro p hp
   rcases List.mem_append.1 hp with h1 | h1
   ·exact (P12.out p h1).beside O12.out G3.out
   ·exact ((P2.out p h1).mono (by have:=BV.out.size;have:=B1.out.size;omega)).beside O12.out G3.out
  ·rw [List.map_append]
   exact HJ.out _ _ S1.out S2.out
end Go.Proofs.YtgkddhncfaeidaaGreat
namespace Go.Proofs.YtgkddhncfaeidaaGreat
open Go.RowKit
section
variable {P:Program} {ops:Array Oper} {md:Region.Mode} {S:World→Prop}
def anyHT (P:Program) (md:Region.Mode) (ops:Array Oper) (Q:Exit→Act→World→Prop) (S:World→Prop) (n:Nat) (L:Array Bool→Act→World→Prop):Nat→Array Bool→Act→World→Prop
 | 0,listed,a,w=>L listed a w
 | f+1,listed,a,w =>
   Region.ready md ops listed≠[]∧∀ i ∈ Region.ready md ops listed,i<n∧wpOp P ops Q i (fun a' w'=>S w'∧anyHT P md ops Q S n L f (listed.setIfInBounds i true) a' w') a w
theorem any_of_HT {n g:Nat} {L:Array Bool→Act→World→Prop} {Q:Exit→Act→World→Prop} (hL:∀ listed a w,L listed a w→wpAny P md ops Q g listed a w) :
 ∀ (f:Nat) (listed:Array Bool) (a:Act) (w:World),anyHT P md ops Q S n L f listed a w→wpAny P md ops Q (f+g) listed a w
 | 0,listed,a,w,h=>by rw [Nat.zero_add];exact hL _ _ _ h
 | f+1,listed,a,w,h=>by
   rw [show f+1+g=(f+g)+1 by omega]
   exact ⟨fun h0=>absurd h0 h.1,fun i hi=>wpOp_mono (fun a' w' h'=>any_of_HT hL f _ a' w' h'.2) (h.2 i hi).2⟩
theorem anyHT_first {n i:Nat} {oi:Oper} {v:Value} {L:Array Bool→Act→World→Prop} {Q:Exit→Act→World→Prop} (hi:ops[i]?=some oi) (hsel:∀ (j:Nat) (o:Oper) cs b,ops[j]?=some o→o.op≠.select cs b)
 (hQ:∀ c a w,Q (.panic c) (a.put oi.dst v) w→Q (.panic c) a w)
 (hs:Region.sinkB md ops n=true) (hc:Region.chainB md ops n=true) (hn:n<ops.size) (hin:i<n)
 (hdone:∀ listed a w,L listed a w→∀ j ∈ Region.ready md ops listed,n≤j) :
 ∀ (f:Nat) (listed:Array Bool) (a:Act) (w:World),HeadInv md ops n listed →
   (∀ j oj,ops[j]?=some oj→j≠i→listed.getD j true=false→(∀ e ∈ oj.after,Region.binds md e=true→e.on≠i)→oi.apart ops oj=true) →
   i ∈ Region.ready md ops listed→YieldsIf P ops S oi v a→S w →
   anyHT P md ops Q S n L f (listed.setIfInBounds i true) (a.put oi.dst v) w→anyHT P md ops Q S n L (f+1) listed a w:=by
 intro f
 induction f with
 | zero =>
   intro listed a w inv _ hr hy hS H
   have hun:=(mem_ready.1 hr).1
   refine ⟨fun h=>(by rw [h] at hr;cases hr),fun j hj=>?_⟩
   have hjn:j<n:=by
    rcases Nat.lt_or_ge j n with h | h
    ·exact h
    ·exact absurd hj (tail_waits hs hc hn inv _ i rfl hin hun j h)
   refine ⟨hjn,?_⟩
   by_cases hji:j=i
   ·subst hji;exact hy.wpOp hi hS ⟨hS,H⟩
   ·have:=hdone _ _ _ H j (ready_mono hj hji)
    omega
 | succ f ih =>
   intro listed a w inv hfree hr hy hS H
   have hun:=(mem_ready.1 hr).1
   refine ⟨fun h=>(by rw [h] at hr;cases hr),fun j hj=>?_⟩
   have hjn:j<n:=by
    rcases Nat.lt_or_ge j n with h | h
    ·exact h
    ·exact absurd hj (tail_waits hs hc hn inv _ i rfl hin hun j h)
   refine ⟨hjn,?_⟩
   by_cases hji:j=i
   ·subst hji;exact hy.wpOp hi hS ⟨hS,H⟩
   ·have h1:=(H.2 j (ready_mono hj hji)).2
    obtain ⟨hjun,oj,hoj,hall⟩:=mem_ready.1 hj
    have hnot:∀ e ∈ oj.after,Region.binds md e=true→e.on≠i:=fun e he hb heq=>by
     have h1:=hall e he hb
     rw [heq,getD_both hun] at h1
     cases h1
    have h2:=wpOp_putIf hoj (hfree j oj hoj hji hjun hnot) (fun cs b=>hsel i oi cs b hi) (fun cs b=>hsel j oj cs b hoj) hQ hy h1
    have hfree':∀ k ok,ops[k]?=some ok→k≠i→(listed.setIfInBounds j true).getD k true=false →
     (∀ e ∈ ok.after,Region.binds md e=true→e.on≠i)→oi.apart ops ok=true:=fun k ok hk hki hun hno=>by
     refine hfree k ok hk hki ?_ hno
     by_cases hjk:j=k
     ·subst hjk;exact hjun
     ·rw [getD_set_ne true hjk] at hun;exact hun
    refine wpOp_mono (fun a' w' h3=>⟨h3.2.1,ih (listed.setIfInBounds j true) a' w' (inv.set hj hjn) hfree' (ready_mono hr (Ne.symm hji)) h3.1 h3.2.1 ?_⟩) h2
    rw [Array.setIfInBounds_comm _ _ hji]
    exact h3.2.2
theorem softsT {n:Nat} {Q:Exit→Act→World→Prop} {K:Act→Prop} {L:Array Bool→Act→World→Prop} (hsel:Region.noSelect ops=true) (hs:Region.sinkB md ops n=true) (hc:Region.chainB md ops n=true) (hn:n<ops.size)
 (hdone:∀ listed a w,L listed a w→∀ j ∈ Region.ready md ops listed,n≤j) {fuel:Nat} {l':Array Bool} {w:World} (hS:S w)
 (hK:∀ a,HeadInv md ops n l'→K a→anyHT P md ops (NoPanic Q) S n L fuel l' a w) :
 ∀ (qs:List Nat) (listed:Array Bool) (a:Act),HeadInv md ops n listed→(qs.all fun q=>decide (q<n))=true→softs4 md ops qs listed=some l'→wpQuiet P ops S K (qs.map (opAt ops)) a→anyHT P md ops (NoPanic Q) S n L (qs.length+fuel) listed a w
 | [],listed,a,inv,_,h,hq=>by
   simp only [softs4,Option.some.injEq] at h
   subst h
   rw [List.length_nil,Nat.zero_add]
   exact hK a inv hq
 | i :: r,listed,a,inv,hall,h,hq=>by
   simp only [softs4] at h
   rw [List.all_cons,Bool.and_eq_true,decide_eq_true_eq] at hall
   split at h
   ·rename_i hcc
    simp only [Bool.and_eq_true,decide_eq_true_eq] at hcc
    obtain ⟨⟨⟨h1,h2⟩,h3⟩,h4⟩:=hcc
    have ho:=opAt_some h1
    have hr:i ∈ Region.ready md ops listed:=by simpa using h4
    rw [List.length_cons,show r.length+1+fuel=(r.length+fuel)+1 by omega]
    simp only [List.map_cons,wpQuiet] at hq
    split at hq
    ·rename_i hw
     obtain ⟨v,hv,hnn⟩:=hq
     refine anyHT_first ho (Region.noSelect_spec hsel) (fun _ _ _ h=>h) hs hc hn hall.1 hdone (v:=v) _ listed a w inv (Region.free_spec ho h3) hr (.inl ⟨hw,fun w2 hw2=>?_⟩) hS (softsT hsel hs hc hn hdone hS hK r _ _ (inv.set hr hall.1) hall.2 h hnn)
     have hv2:=hv w2 hw2
     unfold Oper.quietAt at hv2
     generalize hrr:(execOp a.eval (opAt ops i)).run P w2=x at hv2
     cases x with
     | ok n w3 =>
       obtain ⟨u,rfl⟩:=soft_value4 h2 hrr
       obtain ⟨rfl,rfl⟩:=hv2
       rfl
     | halt x w3=>exact hv2.elim
    ·rename_i hw
     exact anyHT_first ho (Region.noSelect_spec hsel) (fun _ _ _ h=>h) hs hc hn hall.1 hdone (v:=undef) _ listed a w inv (Region.free_spec ho h3) hr (.inr ⟨by simpa using hw,rfl⟩) hS (softsT hsel hs hc hn hdone hS hK r _ _ (inv.set hr hall.1) hall.2 h hq)
   ·cases h
def waysBT (md:Region.Mode) (ops:Array Oper) (n g:Nat):Ways4→Array Bool→Bool
 | .done last,listed=>(last.all fun q=>decide (q<n)) && match softs4 md ops last listed with
   | some l'=>Region.seqB md ops g n l'
   | none=>false
 | .one qs h t,listed=>(qs.all fun q=>decide (q<n)) && match softs4 md ops qs listed with
   | some l'=>decide (Region.ready md ops l'=[h]) && decide (h<n) && waysBT md ops n g t (l'.setIfInBounds h true)
   | none=>false
 | .two qs h1 t1 h2 t2,listed=>(qs.all fun q=>decide (q<n)) && match softs4 md ops qs listed with
   | some l'=>decide (Region.ready md ops l'=[h1,h2]) && decide (h1<n) && decide (h2<n) && waysBT md ops n g t1 (l'.setIfInBounds h1 true) && waysBT md ops n g t2 (l'.setIfInBounds h2 true)
   | none=>false
 | .three qs h1 t1 h2 t2 h3 t3,listed=>(qs.all fun q=>decide (q<n)) && match softs4 md ops qs listed with
   | some l'=>decide (Region.ready md ops l'=[h1,h2,h3]) && decide (h1<n) && decide (h2<n) && decide (h3<n) && waysBT md ops n g t1 (l'.setIfInBounds h1 true) && waysBT md ops n g t2 (l'.setIfInBounds h2 true) && waysBT md ops n g t3 (l'.setIfInBounds h3 true)
   | none=>false
def wpWaysT (P:Program) (ops:Array Oper) (Q:Exit→Act→World→Prop) (S:World→Prop) (tl:List Oper):Ways4→Act→World→Prop
 | .done last,a,w=>wpQuiet P ops S (fun a'=>wpList P ops (Exit.then (fun a2 w2=>Q .normal a2 w2) (NoPanic Q)) tl a' w) (last.map (opAt ops)) a
 | .one qs h t,a,w=>wpQuiet P ops S (fun a'=>wpList P ops (Exit.then (fun a2 w2=>S w2∧wpWaysT P ops Q S tl t a2 w2) (NoPanic Q)) [opAt ops h] a' w) (qs.map (opAt ops)) a
 | .two qs h1 t1 h2 t2,a,w=>wpQuiet P ops S (fun a'=>wpList P ops (Exit.then (fun a2 w2=>S w2∧wpWaysT P ops Q S tl t1 a2 w2) (NoPanic Q)) [opAt ops h1] a' w ∧
  wpList P ops (Exit.then (fun a2 w2=>S w2∧wpWaysT P ops Q S tl t2 a2 w2) (NoPanic Q)) [opAt ops h2] a' w) (qs.map (opAt ops)) a
 | .three qs h1 t1 h2 t2 h3 t3,a,w=>wpQuiet P ops S (fun a'=>wpList P ops (Exit.then (fun a2 w2=>S w2∧wpWaysT P ops Q S tl t1 a2 w2) (NoPanic Q)) [opAt ops h1] a' w ∧
  wpList P ops (Exit.then (fun a2 w2=>S w2∧wpWaysT P ops Q S tl t2 a2 w2) (NoPanic Q)) [opAt ops h2] a' w ∧
  wpList P ops (Exit.then (fun a2 w2=>S w2∧wpWaysT P ops Q S tl t3 a2 w2) (NoPanic Q)) [opAt ops h3] a' w) (qs.map (opAt ops)) a
theorem wpWaysT_done {Q:Exit→Act→World→Prop} {tl:List Oper} {last:List Nat} {a:Act} {w:World}:wpWaysT P ops Q S tl (.done last) a w=wpQuiet P ops S (fun a'=>wpList P ops (Exit.then (fun a2 w2=>Q .normal a2 w2) (NoPanic Q)) tl a' w) (last.map (opAt ops)) a:=rfl
theorem wpWaysT_one {Q:Exit→Act→World→Prop} {tl:List Oper} {qs:List Nat} {h:Nat} {t:Ways4} {a:Act} {w:World} :
 wpWaysT P ops Q S tl (.one qs h t) a w=wpQuiet P ops S (fun a'=>wpList P ops (Exit.then (fun a2 w2=>S w2∧wpWaysT P ops Q S tl t a2 w2) (NoPanic Q)) [opAt ops h] a' w) (qs.map (opAt ops)) a:=rfl
theorem wpWaysT_two {Q:Exit→Act→World→Prop} {tl:List Oper} {qs:List Nat} {h1 h2:Nat} {t1 t2:Ways4} {a:Act} {w:World} :
 wpWaysT P ops Q S tl (.two qs h1 t1 h2 t2) a w=wpQuiet P ops S (fun a'=>wpList P ops (Exit.then (fun a2 w2=>S w2∧wpWaysT P ops Q S tl t1 a2 w2) (NoPanic Q)) [opAt ops h1] a' w ∧
  wpList P ops (Exit.then (fun a2 w2=>S w2∧wpWaysT P ops Q S tl t2 a2 w2) (NoPanic Q)) [opAt ops h2] a' w) (qs.map (opAt ops)) a:=rfl
theorem anyHT_all {n:Nat} {Q:Exit→Act→World→Prop} {L:Array Bool→Act→World→Prop} {rs:List Nat} {fuel:Nat} {listed:Array Bool} {a:Act} {w:World} (hr:Region.ready md ops listed=rs) (hne:rs≠[])
 (h:∀ i ∈ rs,i<n∧wpOp P ops Q i (fun a' w'=>S w'∧anyHT P md ops Q S n L fuel (listed.setIfInBounds i true) a' w') a w):anyHT P md ops Q S n L (fuel+1) listed a w :=
 ⟨fun h0=>absurd (hr ▸ h0) hne,hr ▸ h⟩
theorem ready_mem {l:Array Bool} {rs:List Nat} {i:Nat} (hr:Region.ready md ops l=rs) (h:i ∈ rs):i ∈ Region.ready md ops l:=by rw [hr];exact h
theorem anyHT_of_ways {n g:Nat} {Q:Exit→Act→World→Prop} {tl:List Oper} (hsel:Region.noSelect ops=true) (hs:Region.sinkB md ops n=true) (hc:Region.chainB md ops n=true) (hn:n<ops.size) :
 ∀ (t:Ways4) (f:Nat) (listed:Array Bool) (a:Act) (w:World),S w→HeadInv md ops n listed→waysN4 t f=true→waysBT md ops n g t listed=true→wpWaysT P ops Q S tl t a w →
   anyHT P md ops (NoPanic Q) S n (fun listed a w=>Region.seqB md ops g n listed=true∧wpList P ops (Exit.then (fun a2 w2=>Q .normal a2 w2) (NoPanic Q)) tl a w) f listed a w
 | .done last,f,listed,a,w,hS,inv,hN,hB,h=>by
   simp only [waysBT,Bool.and_eq_true] at hB
   obtain ⟨hall,hB⟩:=hB
   simp only [waysN4,decide_eq_true_eq] at hN
   subst hN
   split at hB
   ·rename_i l' hl
    have:=softsT (fuel:=0) (Q:=Q) (L:=fun listed a w=>Region.seqB md ops g n listed=true∧wpList P ops (Exit.then (fun a2 w2=>Q .normal a2 w2) (NoPanic Q)) tl a w) hsel hs hc hn (fun listed' a' w' hL=>seqB_ready hL.1) hS (fun a' _ ha=>(And.intro hB ha:_∧_)) last listed a inv hall hl h
    exact this
   ·cases hB
 | .one qs i t,f,listed,a,w,hS,inv,hN,hB,h=>by
   simp only [waysBT,Bool.and_eq_true] at hB
   obtain ⟨hall,hB⟩:=hB
   simp only [waysN4,Bool.and_eq_true,decide_eq_true_eq] at hN
   split at hB
   ·rename_i l' hl
    simp only [Bool.and_eq_true,decide_eq_true_eq] at hB
    obtain ⟨⟨hr,hin⟩,hB2⟩:=hB
    rw [show f=qs.length+((f - qs.length - 1)+1) by omega]
    refine softsT (fuel:=(f - qs.length - 1)+1) hsel hs hc hn (fun listed' a' w' hL=>seqB_ready hL.1) hS (fun a' inv' ha=>?_) qs listed a inv hall hl h
    refine anyHT_all hr (by simp) fun j hj=>?_
    obtain rfl:j=i:=by simpa using hj
    have hm:=ready_mem hr hj
    exact ⟨hin,wpOp_of_one (ready_lt hm) (fun a2 w2 h2=>⟨h2.1,anyHT_of_ways hsel hs hc hn t _ _ a2 w2 h2.1 (inv'.set hm hin) hN.2 hB2 h2.2⟩) ha⟩
   ·cases hB
 | .two qs i t1 k t2,f,listed,a,w,hS,inv,hN,hB,h=>by
   simp only [waysBT,Bool.and_eq_true] at hB
   obtain ⟨hall,hB⟩:=hB
   simp only [waysN4,Bool.and_eq_true,decide_eq_true_eq] at hN
   split at hB
   ·rename_i l' hl
    simp only [Bool.and_eq_true,decide_eq_true_eq] at hB
    obtain ⟨⟨⟨⟨hr,hi1⟩,hi2⟩,hB1⟩,hB2⟩:=hB
    rw [show f=qs.length+((f - qs.length - 1)+1) by omega]
    refine softsT (fuel:=(f - qs.length - 1)+1) hsel hs hc hn (fun listed' a' w' hL=>seqB_ready hL.1) hS (fun a' inv' ha=>?_) qs listed a inv hall hl h
    refine anyHT_all hr (by simp) fun j hj=>?_
    have hj2:j=i∨j=k:=by simpa using hj
    have hm:=ready_mem hr hj
    rcases hj2 with rfl | rfl
    ·exact ⟨hi1,wpOp_of_one (ready_lt hm) (fun a2 w2 h2=>⟨h2.1,anyHT_of_ways hsel hs hc hn t1 _ _ a2 w2 h2.1 (inv'.set hm hi1) hN.1.2 hB1 h2.2⟩) ha.1⟩
    ·exact ⟨hi2,wpOp_of_one (ready_lt hm) (fun a2 w2 h2=>⟨h2.1,anyHT_of_ways hsel hs hc hn t2 _ _ a2 w2 h2.1 (inv'.set hm hi2) hN.2 hB2 h2.2⟩) ha.2⟩
   ·cases hB
 | .three qs i t1 k t2 m t3,f,listed,a,w,hS,inv,hN,hB,h=>by
   simp only [waysBT,Bool.and_eq_true] at hB
   obtain ⟨hall,hB⟩:=hB
   simp only [waysN4,Bool.and_eq_true,decide_eq_true_eq] at hN
   split at hB
   ·rename_i l' hl
    simp only [Bool.and_eq_true,decide_eq_true_eq] at hB
    obtain ⟨⟨⟨⟨⟨⟨hr,hi1⟩,hi2⟩,hi3⟩,hB1⟩,hB2⟩,hB3⟩:=hB
    rw [show f=qs.length+((f - qs.length - 1)+1) by omega]
    refine softsT (fuel:=(f - qs.length - 1)+1) hsel hs hc hn (fun listed' a' w' hL=>seqB_ready hL.1) hS (fun a' inv' ha=>?_) qs listed a inv hall hl h
    refine anyHT_all hr (by simp) fun j hj=>?_
    have hj2:j=i∨j=k∨j=m:=by simpa using hj
    have hm:=ready_mem hr hj
    rcases hj2 with rfl | rfl | rfl
    ·exact ⟨hi1,wpOp_of_one (ready_lt hm) (fun a2 w2 h2=>⟨h2.1,anyHT_of_ways hsel hs hc hn t1 _ _ a2 w2 h2.1 (inv'.set hm hi1) hN.1.1.2 hB1 h2.2⟩) ha.1⟩
    ·exact ⟨hi2,wpOp_of_one (ready_lt hm) (fun a2 w2 h2=>⟨h2.1,anyHT_of_ways hsel hs hc hn t2 _ _ a2 w2 h2.1 (inv'.set hm hi2) hN.1.2 hB2 h2.2⟩) ha.2.1⟩
    ·exact ⟨hi3,wpOp_of_one (ready_lt hm) (fun a2 w2 h2=>⟨h2.1,anyHT_of_ways hsel hs hc hn t3 _ _ a2 w2 h2.1 (inv'.set hm hi3) hN.2 hB3 h2.2⟩) ha.2.2⟩
   ·cases hB
theorem then_noPanic {Q:Exit→Act→World→Prop}:Exit.then (fun a w=>Q .normal a w) (NoPanic Q)=NoPanic Q:=by
 funext e a w
 cases e <;> rfl
end
def waysOKT (ops:Array Oper) (n:Nat) (t:Ways4):Bool:=Region.noSelect ops && decide (n<ops.size) && Region.sinkB .any ops n && Region.chainB .any ops n && waysN4 t n && waysBT .any ops n (ops.size - n) t (Array.replicate ops.size false)
theorem region_waysT {P:Program} {id:Nat} {Q:Exit→Act→World→Prop} {a:Act} {w:World} {l:List Oper} (n B:Nat) (hBw:B≤w.heap.size) (t:Ways4) (hm:P.follows .mixedOrders=true) (hB:waysOKT l.toArray n t=true)
 (h:∀ w',Below w.heap.size w w'→wpWaysT P l.toArray Q (fun w'=>∃ x:SubW B w,w'=x.at_) (l.drop n) t a w'):(Code.region id l.toArray true).wp P Q a w:=by
 simp only [waysOKT,Bool.and_eq_true,decide_eq_true_eq] at hB
 obtain ⟨⟨⟨⟨⟨hsel,hn⟩,hs⟩,hc⟩,hN⟩,hT⟩:=hB
 have hb:=below_drewN (Below.refl w.heap.size w) 1
 have hdl:(l.drop n).length=l.toArray.size - n:=by simp
 have inv0:HeadInv .any l.toArray n (Array.replicate l.toArray.size false) :=
  ⟨by simp,fun j oj _ hl=>(by rw [getD_replicate_false] at hl;cases hl),fun t _ ht=>getD_in (by simpa using ht) (getD_replicate_false _ _)⟩
 have H:=anyHT_of_ways (md:=.any) (S:=fun w'=>∃ x:SubW B w,w'=x.at_) hsel hs hc hn t n _ a _ ⟨⟨_,hb.mono hBw⟩,rfl⟩ inv0 hN hT (h _ hb)
 refine wp_region_noPanic (wp_region_any hm ?_)
 have:=any_of_HT (g:=l.toArray.size - n) (fun listed a' w' hL=>by
  have h2:=hL.2
  rw [then_noPanic] at h2
  have:=wpAny_of_seq (md:=.any) (Q':=NoPanic Q) (l.drop n) n listed a' w' (fun j=>by simp [List.getElem?_drop]) (by rw [hdl];exact hL.1) h2
  rwa [hdl] at this) n _ a _ H
 rwa [show n+(l.toArray.size - n)=l.toArray.size by omega] at this
end Go.Proofs.YtgkddhncfaeidaaGreat
