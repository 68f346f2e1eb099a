/- Squeezed: the texts as they are written lie in wip/tpl. -/
import Derived.Test.YtgkddhncfaeidaaGreatPart33
import Derived.Test.YtgkddhncfaeidaaGreatTvTb
set_option maxRecDepth 100000
set_option maxHeartbeats 8000000
set_option linter.unusedSimpArgs false
set_option linter.unusedVariables false
namespace Go.Proofs.YtgkddhncfaeidaaGreat
set_option linter.unnecessarySimpa false
open Go.RowKit Go.ChangeShapes Go.WideShapes Go.ChangeAt CrcM PageM
def TakS (gc gv g gen p:Nat) (Uv Vv V U:List Bool) (qs:List Nat):Prop:=∀ (k a:Nat) (lv':Value) (W:World),qs[k]?=some a→ChgAt W gc gv (p:Int) (marks U (qs.take k)) V lv'→ViewAt W gv g gen (p:Int) Uv Vv→Calls Tryz.prog 81 #[.pointer (some ⟨gc,0,none⟩)] W fun e w'=>e=.returned (.tuple #[.int .i64 (a:Int),.int .i64 0])∧ChgAt w' gc gv (p:Int) (markN (marks U (qs.take k)) a true 1) V lv'∧OuterX (fun k=>k=gc) W w'
structure WiB (w w':World) (gc gv p B0 b1:Nat) (V:List Bool) (L:List (Nat × (NodeD × NdL))) (sl:NdL) (n':NodeD) (l':NdL) (Lx:List (Nat × (NodeD × NdL))) (U':List Bool) (lv':Value):Prop where
 own:OwnN w' b1 n' l'
 chg:ChgS w' gc gv p B0 U' V lv' (L ++ Lx)
 lay:∀ x ∈ L ++ Lx,OwnN w' B0 x.2.1 x.2.2
 out:OutS gc B0 (fun k=>sl.KA.map (·.block)=some k∨sl.DA.map (·.block)=some k) w w'
theorem within_by (gc gv g gen p B0 h:Nat) (U Uv Vv V:List Bool) (lv:Value) (L:List (Nat × (NodeD × NdL))) {B N gs gn Ls cs cn:Nat} {rw:Value} {st nw:List UInt8} {ws:List (Nat × List UInt8)} (s:StepM) (n0:NodeD) (l0:NdL) (rd rn:Nat→NodeD→Prop) (parts:List PartD) (E0:List EntD) (bo b1:Nat)
 (hrd:∀ a n,rd a n→rdQ nw Ls a n∧2≤a∧a<p∧V.getD a false=true) (hrn:∀ a n,rd a n→rn a n)
 (hds:s.s.n.ds=parts.map (fun x=>kidI x.1)) (hks:s.s.n.ks=parts.map (fun x=>leastK x.2.1)) (hp:∀ x ∈ parts,rd x.1 x.2.1∧Tre rd h x.2.1 x.2.2∧1≤x.2.2.length) (hr:s.s.at_<parts.length) (hm:parts.length≤16)
 (ht:TrO rn h n0 E0) (hn0:n0.size≤capN n0.leaf+1) (hz:n0.size≤capN n0.leaf∨s.s.at_+1=parts.length) (hV:V.length=512) (okV:okM (p:Int) V) (hU:U.length=512) (okU:okM (p:Int) U) (hfw:fewB n0=false) (qs:List Nat) (hqs:∀ ps,SplitOf n0 ps→qs.length=ps.length) (htk:TakS gc gv g gen p Uv Vv V U qs) (hLL:L.length≤1000) (w:World) (hc:ChgS w gc gv p B0 U V lv L) (hL:∀ x ∈ L,OwnN w B0 x.2.1 x.2.2) (hv:ViewAt w gv g gen (p:Int) Uv Vv) (hd:Dk w B N g gs gn rw Ls cs cn st nw ws true (-1)) (hsn:OwnN w b1 s.s.n s.l) (hnn:OwnN w bo n0 l0) (hsB:∀ a,s.l.KA=some a∨s.l.DA=some a→a.block<B0) (hb1:b1≤w.heap.size) (hB0:B0≤w.heap.size) :
 Calls Tryz.prog 61 #[.pointer (some ⟨gc,0,none⟩),.agg (stC s).toArray,.agg #[.bool n0.leaf,.slice l0.EA n0.es.length l0.ec,.slice l0.KA n0.ks.length l0.kc,.slice l0.DA n0.ds.length l0.dc]] w fun e w'=>∃ (n':NodeD) (l':NdL) (Lx:List (Nat × (NodeD × NdL))) (lv':Value),e=.returned (.tuple #[.agg #[.bool n'.leaf,.slice l'.EA n'.es.length l'.ec,.slice l'.KA n'.ks.length l'.kc,.slice l'.DA n'.ds.length l'.dc],.int .i64 0]) ∧
  WiB w w' gc gv p B0 b1 V L s.l n' l' Lx (marks U qs) lv'∧WiS s.s n0 n' Lx U (marks U qs)∧Lx.map Prod.fst=qs:=by
 have HJO:=Lib.hid (fun W (hW:Below w.heap.size w W)=>joined_any gc gv g gen p h U Uv Vv V lv s n0 l0 rd rn parts E0 0 [] bo b1 hrd hrn hds hp hr hm ht hn0 hV ⟨hU,okU,⟨[],rfl,List.nodup_nil,fun a ha=>by cases ha⟩,List.nodup_nil,fun a ha=>by cases ha⟩ W (hc.chg.below hW) (hv.below hW) (hd.below hW) (hsn.below hW) (hnn.below hW))
 obtain ⟨⟨a,M,r⟩,l⟩:=s
 dsimp only [stC] at hds hks hr hsn hsB hz HJO ⊢
 obtain ⟨q,hq⟩:∃ q,parts.length=q:=⟨_,rfl⟩
 have HQ:=Lib.hid hq
 have HND:Hid (M.ds.length=q):=Lib.hid (by rw [hds,List.length_map];exact hq)
 have HNK:Hid (M.ks.length=q):=Lib.hid (by rw [hks,List.length_map];exact hq)
 obtain ⟨ne,hne⟩:∃ ne,ne=M.es.length:=⟨_,rfl⟩
 obtain ⟨lfN,hlfN⟩:∃ lfN,lfN=M.leaf:=⟨_,rfl⟩
 rw [HND.out,HNK.out,← hne,← hlfN] at HJO
 rw [HND.out,HNK.out,← hne,← hlfN]
 rw [hq] at hr hm
 clear hne hlfN
 have HRD:=Lib.hid hrd
 have HRN:=Lib.hid hrn
 have HDS:=Lib.hid hds
 have HKS:=Lib.hid hks
 have HP:=Lib.hid hp
 have HV:=Lib.hid hV
 have HOV:=Lib.hid okV
 have HFW:=Lib.hid hfw
 have HQS:=Lib.hid hqs
 have HTK:=Lib.hid htk
 have HVW:=Lib.hid hv
 have HSN:=Lib.hid hsn
 have HC:=Lib.hid hc
 have HL:=Lib.hid hL
 have HLL:=Lib.hid hLL
 have HSB:=Lib.hid hsB
 have HB1:=Lib.hid hb1
 have HB00:=Lib.hid hB0
 obtain ⟨z,hzd⟩:∃ z,z=n0.size - capN n0.leaf:=⟨_,rfl⟩
 have HZ:Hid (n0.size≤capN n0.leaf+z∧z≤1∧(z=0∨r+1=q)):=Lib.hid (by rw [hq] at hz;omega)
 have HTL:Hid (n0.leaf=decide (h=0)):=Lib.hid ht.leaf
 clear hzd hz hq
 clear hrd hrn hds hks hp ht hn0 hV okV hU okU hfw hqs htk hLL hc hL hv hd hsn hnn hsB hb1 hB0
 go_enter Tryz.func61,Tryz.ntmps61
 go_upto_region 1 with fail
 obtain ⟨w3,hw3⟩:∃ w3,w3=((w.alloc (.cells #[.int .i64 (a:Int),.bool lfN,.slice l.EA ne l.ec,.slice l.KA q l.kc,.slice l.DA q l.dc,.int .i64 (r:Int)] 96)).alloc (.cells #[.bool n0.leaf,.slice l0.EA n0.es.length l0.ec,.slice l0.KA n0.ks.length l0.kc,.slice l0.DA n0.ds.length l0.dc] 86)).alloc (.cells #[.bool false,.slice none 0 0,.slice none 0 0,.slice none 0 0] 86):=⟨_,rfl⟩
 have A4:Hid (w3.heap[w.heap.size]?=some (.cells #[.int .i64 (a:Int),.bool lfN,.slice l.EA ne l.ec,.slice l.KA q l.kc,.slice l.DA q l.dc,.int .i64 (r:Int)] 96 (0,0))):=Lib.hid (by
  rw [hw3]
  exact row_stays (row_stays (heap_alloc_new w _) (alloc_bel rfl)) (alloc_bel rfl))
 have A5:Hid (w3.heap[w.heap.size+1]?=some (.cells #[.bool n0.leaf,.slice l0.EA n0.es.length l0.ec,.slice l0.KA n0.ks.length l0.kc,.slice l0.DA n0.ds.length l0.dc] 86 (0,0))):=Lib.hid (by
  rw [hw3]
  have h1:=heap_alloc_new (w.alloc (.cells #[.int .i64 (a:Int),.bool lfN,.slice l.EA ne l.ec,.slice l.KA q l.kc,.slice l.DA q l.dc,.int .i64 (r:Int)] 96)) (.cells #[.bool n0.leaf,.slice l0.EA n0.es.length l0.ec,.slice l0.KA n0.ks.length l0.kc,.slice l0.DA n0.ds.length l0.dc] 86)
  rw [World.size_alloc] at h1
  exact row_stays h1 (alloc_bel rfl))
 have A6:Hid (w3.heap[w.heap.size+1+1]?=some (.cells #[.bool false,.slice none 0 0,.slice none 0 0,.slice none 0 0] 86 (0,0))):=Lib.hid (by
  rw [hw3]
  have h1:=heap_alloc_new ((w.alloc (.cells #[.int .i64 (a:Int),.bool lfN,.slice l.EA ne l.ec,.slice l.KA q l.kc,.slice l.DA q l.dc,.int .i64 (r:Int)] 96)).alloc (.cells #[.bool n0.leaf,.slice l0.EA n0.es.length l0.ec,.slice l0.KA n0.ks.length l0.kc,.slice l0.DA n0.ds.length l0.dc] 86)) (.cells #[.bool false,.slice none 0 0,.slice none 0 0,.slice none 0 0] 86)
  rw [World.size_alloc,World.size_alloc] at h1
  exact h1)
 have B3:Hid (Below w.heap.size w w3):=Lib.hid (by
  rw [hw3]
  exact (((Below.refl _ w).alloc (Nat.le_refl _) _).alloc (by simp) _).alloc (by simp;omega) _)
 rw [← hw3]
 clear hw3
 obtain ⟨b4,hb4⟩:∃ b4,b4=w.heap.size:=⟨_,rfl⟩
 obtain ⟨b5,hb5⟩:∃ b5,b5=w.heap.size+1:=⟨_,rfl⟩
 obtain ⟨b6,hb6⟩:∃ b6,b6=w.heap.size+1+1:=⟨_,rfl⟩
 rw [← hb4] at A4
 rw [← hb5] at A5
 rw [← hb6] at A6
 rw [← hb6,← hb5,← hb4]
 have HB4:=Lib.hid hb4
 have HB5:=Lib.hid hb5
 have HB6:=Lib.hid hb6
 clear hb4 hb5 hb6
 have C3:=Lib.hid (HC.out.below B3.out)
 go_upto_region 2 with (first
  | (refine wpList_load_row rfl 96 (.tmp 4) rfl b4 rfl 96 _ (0,0) _ A4.out Tryz.underlying96 rfl (by kernel_rfl) ?_)
  | (refine wpList_load_row rfl 86 (.tmp 5) rfl b5 rfl 86 _ (0,0) _ A5.out Tryz.underlying86 rfl (by kernel_rfl) ?_)
  | (go_at_call 91;refine (HJO.out _ B3.out).mono ?_;rintro e w4 ⟨n1,l1,f,t,bo1,bx1,U1,rfl,hj⟩;have J4:=Lib.hid hj;have K4:=Lib.hid (row_off A4.out (by decide) C3.out.chg hj.out);have K5:=Lib.hid (row_off A5.out (by decide) C3.out.chg hj.out);have K6:=Lib.hid (row_off A6.out (by decide) C3.out.chg hj.out);clear hj)
  | (refine wpList_store_row rfl 86 (.tmp 5) (.tmp 17) rfl b5 #[.bool n1.leaf,.slice l1.EA n1.es.length l1.ec,.slice l1.KA n1.ks.length l1.kc,.slice l1.DA n1.ds.length l1.dc] rfl rfl 86 _ K5.out (by kernel_rfl) rfl (by simp [Value.oneCell']) ?_))
 obtain ⟨w5,hw5⟩:∃ w5,w5=w4.setRow b5 #[.bool n1.leaf,.slice l1.EA n1.es.length l1.ec,.slice l1.KA n1.ks.length l1.kc,.slice l1.DA n1.ds.length l1.dc]:=⟨_,rfl⟩
 have C4:=Lib.hid (C3.out.offgc J4.out.chg J4.out.out)
 have N5:Hid (KeptNot 86 w4 w5):=Lib.hid (by rw [hw5];exact KeptNot.of_setRow K5.out _)
 have OW5:Hid (OuterX (fun k=>k=gc) w w5):=Lib.hid (by
  rw [hw5]
  exact outX_of_row (outX_trans (outerX_of_below B3.out) J4.out.out) (by have:=HB5.out;omega) _)
 have K55:Hid (w5.heap[b5]?=some (.cells #[.bool n1.leaf,.slice l1.EA n1.es.length l1.ec,.slice l1.KA n1.ks.length l1.kc,.slice l1.DA n1.ds.length l1.dc] 86 (0,0))):=Lib.hid (by rw [hw5];exact setRow_heap _ _ _ _ _ _ K5.out)
 have K45:Hid (w5.heap[b4]?=some (.cells #[.int .i64 (a:Int),.bool lfN,.slice l.EA ne l.ec,.slice l.KA q l.kc,.slice l.DA q l.dc,.int .i64 (r:Int)] 96 (0,0))):=Lib.hid (N5.out.heap K4.out (by decide))
 have K65:Hid (w5.heap[b6]?=some (.cells #[.bool false,.slice none 0 0,.slice none 0 0,.slice none 0 0] 86 (0,0))):=Lib.hid (by
  rw [hw5]
  exact (setRow_other _ b5 b6 _ (by have:=HB5.out;have:=HB6.out;omega)).trans K6.out)
 have C5:Hid (ChgS w5 gc gv p B0 U1 V lv L):=Lib.hid (N5.out.chg C4.out (by decide) (by decide))
 have KT:Hid (∀ (b:Nat) (n:NodeD) (l:NdL),OwnN w b n l→OwnN w5 b n l):=Lib.hid (fun b n l h=>by
  rw [hw5]
  exact keepT_row K5.out _ ((h.below B3.out).offgc C3.out.chg J4.out.out) (by decide) (by decide) (by decide))
 have ON1:Hid (OwnN w5 bo1 n1 l1):=Lib.hid (by
  rw [hw5]
  exact keepT_row K5.out _ J4.out.own (by decide) (by decide) (by decide))
 rw [← hw5]
 clear hw5 K4 K5 K6 A4 A5 A6 N5
 have S5:Hid (B0≤w5.heap.size):=Lib.hid (Nat.le_trans HB00.out OW5.out.size)
 have HS1:Hid (n1.size≤32):=Lib.hid (by have:=J4.out.big;have:=capN_le n1.leaf;omega)
 have HSP:=Lib.hid (split_any n1.size n1 l1 (Nat.le_refl _) J4.out.tre.clean (by have:=HS1.out;omega) w5 ON1.out.at)
 have EU:Hid (U1=U∧n1=n0):=Lib.hid ⟨(J4.out.same HFW.out).2.2.2.2,(J4.out.same HFW.out).2.2.1⟩
 have V5:Hid (ViewAt w5 gv g gen (p:Int) Uv Vv):=Lib.hid (HVW.out.offgc HC.out.chg OW5.out)
 have HAB:Hid (∀ (A:Option Addr) (c:Nat) (ps:List (NodeD × NdL)) (W:World),SplitOf n1 (ps.map Prod.fst)→qs.length=ps.length→ps.length≤2→Below w5.heap.size w5 W→W.ownsRow w5.heap.size 86 4 (.slice A ps.length c) ps.length (ps.flatMap ndP)→(∀ x ∈ ps,OwnN W w5.heap.size x.1 x.2) →
  Calls Tryz.prog 51 #[.pointer (some ⟨gc,0,none⟩),.slice A ps.length c] W fun e w'=>∃ (l':NdL) (lv':Value),e=.returned (.tuple #[.agg #[.bool false,.slice none 0 0,.slice l'.KA ps.length l'.kc,.slice l'.DA ps.length l'.dc],.int .i64 0]) ∧
  NodeT w' ⟨false,[],ps.map fun x=>leastK x.1,qs.map kidI⟩ { l' with EA:=none,ec:=0 }∧ChgS w' gc gv p B0 (marks U1 qs) V lv' (L ++ qs.zip ps)∧OutT gc B0 151 W w'):=Lib.hid (fun A c ps W hsp hql hp2 hb hrow how=>by
  refine above_by gc gv p B0 U1 V lv L J4.out.fit.len HV.out ps qs hql (by have:=HLL.out;omega) A c W (C5.out.below hb) (ChAt.of_row hrow) (fun x hx=>?_) (fun k a lv' W2 hk ho hc2=>?_)
  ·obtain ⟨k1,k2,k3,_⟩:=hsp.kind x.1 (List.mem_map_of_mem hx)
   refine ⟨(how x hx).t,k3,fun hl=>?_⟩
   unfold cleanN at k2
   rw [if_neg (by simp [hl])] at k2
   exact k2.2
  ·rw [EU.out.1] at hc2 ⊢
   exact HTK.out k a lv' W2 hk hc2 ((OutS.of_outT ho:OutS gc B0 (fun _=>False) W W2).typed (C5.out.below hb).chg (V5.out.below hb) (by decide) (by decide) (fun h=>h)))
 have HCNT:Hid (∀ ps:List NodeD,SplitOf n1 ps→ps.length≤2∧f+ps.length≤t+z∧(f+ps.length≤t∨t=q)):=Lib.hid (fun ps hsp=>by
  have h2:=hsp.two J4.out.big
  have h5:=J4.out.fr
  have h6:=J4.out.rt
  have h7:=J4.out.tm
  rw [HQ.out] at h7
  obtain ⟨hz1,hz2,hz3⟩:=HZ.out
  by_cases hft:t=f+1
  ·have h3:=J4.out.one hft
   have hlf:n1.leaf=n0.leaf:=by rw [J4.out.tre.leaf,HTL.out]
   by_cases hzz:z=0
   ·have h4:ps.length≤1:=by
     by_cases h0:n1.size=0
     ·rw [hsp.none h0]
      simp
     ·rw [hsp.one (by omega) (by rw [hlf];omega)]
      simp
    omega
   ·omega
  ·omega)
 go_upto_region 4 with fail
 go_upto_region 5 with (first
  | (refine wpList_load_row rfl 86 (.tmp 5) rfl b5 rfl 86 _ (0,0) _ K55.out Tryz.underlying86 rfl (by kernel_rfl) ?_)
  | (go_at_call 62;refine HSP.out.mono ?_;rintro e w6 ⟨As,cs6,ps,rfl,hr6,ho6,hsp6,hb6⟩;have R6:=Lib.hid hr6;have O6:=Lib.hid ho6;have SP6:=Lib.hid hsp6;have B6:=Lib.hid hb6;have CN6:=Lib.hid (HCNT.out _ hsp6);clear hr6 ho6 hsp6 hb6)
  | (go_at_call 51;obtain ⟨k,hk⟩:∃ k,k=ps.length:=⟨_,rfl⟩;have HK:=Lib.hid hk;have hq1:qs.length=k:=(by have h1:=HQS.out _ (by rw [← EU.out.2];exact SP6.out);rw [List.length_map,← hk] at h1;exact h1);have HQ1:=Lib.hid hq1;refine (HAB.out As cs6 ps _ SP6.out (hq1.trans hk) (by have h1:=CN6.out.1;rwa [List.length_map] at h1) B6.out R6.out O6.out).mono ?_;rintro e w7 ⟨l2,lv7,rfl,hn7,hc7,ho7⟩;have N7:=Lib.hid hn7;have C7:=Lib.hid hc7;have O7:=Lib.hid ho7;rw [← hk];clear hq1 hn7 hc7 ho7 hk)
  | (refine wpList_store_row rfl 86 (.tmp 11) (.tmp 30) rfl w7.heap.size #[.bool false,.slice none 0 0,.slice l2.KA k l2.kc,.slice l2.DA k l2.dc] rfl rfl 86 _ (heap_alloc_new _ _) (by kernel_rfl) rfl (by simp [Value.oneCell']) ?_))
 obtain ⟨b11,hb11⟩:∃ b11,b11=w7.heap.size:=⟨_,rfl⟩
 obtain ⟨w9,hw9⟩:∃ w9,w9=(w7.alloc (.cells #[.bool false,.slice none 0 0,.slice none 0 0,.slice none 0 0] 86)).setRow b11 #[.bool false,.slice none 0 0,.slice l2.KA k l2.kc,.slice l2.DA k l2.dc]:=⟨_,rfl⟩
 have BL9:Hid (Below w7.heap.size w7 w9):=Lib.hid (by rw [hw9,hb11];exact below_setRow (alloc_bel rfl) (Nat.le_refl _) _)
 have G11:Hid (w9.heap[b11]?=some (.cells #[.bool false,.slice none 0 0,.slice l2.KA k l2.kc,.slice l2.DA k l2.dc] 86 (0,0))):=Lib.hid (by
  rw [hw9]
  exact setRow_heap _ _ _ _ _ _ (by rw [hb11];exact heap_alloc_new _ _))
 rw [← hb11,← hw9]
 clear hw9 hb11
 have C6:=Lib.hid (C5.out.below B6.out)
 have OS7:Hid (OutS gc B0 (fun _=>False) w6 w7):=Lib.hid (OutS.of_outT O7.out)
 have K49:Hid (w9.heap[b4]?=some (.cells #[.int .i64 (a:Int),.bool lfN,.slice l.EA ne l.ec,.slice l.KA q l.kc,.slice l.DA q l.dc,.int .i64 (r:Int)] 96 (0,0))):=Lib.hid (row_stays (OS7.out.typed C6.out.chg (row_stays K45.out B6.out) (by decide) (by decide) (fun h=>h)) BL9.out)
 have K69:Hid (w9.heap[b6]?=some (.cells #[.bool false,.slice none 0 0,.slice none 0 0,.slice none 0 0] 86 (0,0))):=Lib.hid (row_stays (OS7.out.typed C6.out.chg (row_stays K65.out B6.out) (by decide) (by decide) (fun h=>h)) BL9.out)
 have KT9:Hid (∀ (b:Nat) (n:NodeD) (l:NdL),OwnN w b n l→OwnN w9 b n l):=Lib.hid (fun b n l h=>((OS7.out.own C6.out.chg ((KT.out b n l h).below B6.out) (fun _ _ h=>h)).below BL9.out))
 have OM9:=Lib.hid (KT9.out _ _ _ HSN.out)
 have N9:=Lib.hid (N7.out.below BL9.out)
 have C9:=Lib.hid (C7.out.below BL9.out)
 have OL9:Hid (∀ x ∈ L ++ qs.zip ps,OwnN w9 B0 x.2.1 x.2.2):=Lib.hid (fun x hx=>by
  rcases List.mem_append.1 hx with hx | hx
  ·exact KT9.out _ _ _ (HL.out x hx)
  ·exact ((OS7.out.own C6.out.chg (O6.out x.2 (List.of_mem_zip hx).2) (fun _ _ h=>h)).mono S5.out).below BL9.out)
 have OUT9:Hid (OutS gc B0 (fun _=>False) w w9):=Lib.hid ((((OutS.of_outer OW5.out).trans (OutS.of_below B6.out)).trans OS7.out).trans (OutS.of_below BL9.out))
 have HXK:Hid (∀ (j:Nat) (cs:Array Value) (T:TypeId) (fr:Nat × Nat),w9.heap[j]?=some (.cells cs T fr)→T≠38→T≠3→¬ (l.KA.map (·.block)=some j∨l.DA.map (·.block)=some j)):=Lib.hid (fun j cs T fr hj h1 h2 hx=>by
  rcases hx with hx | hx
  ·exact row_blk OM9.out.2.1 hj h1 hx
  ·exact row_blk OM9.out.2.2 hj h2 hx)
 have HRK:Hid (∀ W,Below w9.heap.size w9 W→Calls Tryz.prog 92 #[.slice l.KA q l.kc,.int .i64 (f:Int),.int .i64 (t:Int),.slice l2.KA k l2.kc] W fun e w'=>(∃ A' c',e=.returned (.slice A' (f+k+(q - t)) c')∧w'.ownsRow b1 38 2 (.slice A' (f+k+(q - t)) c') (f+k+(q - t)) ((M.ks.take f ++ (ps.map fun x=>leastK x.1) ++ M.ks.drop t).flatMap kyC))∧W.grownBy w' (Value.slice l.KA q l.kc).ownBlock):=Lib.hid (fun W hW=>by
  have h1:=(OM9.out.below hW).2.1
  rw [HNK.out] at h1
  have h2:=CN6.out.2.2
  rw [List.length_map,← HK.out] at h2
  exact rep_keys b1 q l.kc k l2.kc f t l.KA l2.KA M.ks _ W HNK.out h1 (by have:=J4.out.fr;have:=J4.out.rt;omega) (by have:=J4.out.tm;rw [HQ.out] at this;exact this) (by rw [List.length_map];exact HK.out.symm) (by have h9:=CN6.out.1;rw [List.length_map,← HK.out] at h9;omega) h2 (N9.out.below hW).at_.k (by omega) (by have:=HB1.out;have:=OUT9.out.size;have:=hW.size;omega))
 have HRD2:Hid (∀ W,W.ownsRow b1 3 1 (.slice l.DA q l.dc) q (M.ds.map kdC)→KdAt W l2.DA (qs.map kidI)→w9.heap.size≤W.heap.size→Calls Tryz.prog 93 #[.slice l.DA q l.dc,.int .i64 (f:Int),.int .i64 (t:Int),.slice l2.DA k l2.dc] W fun e w'=>(∃ A' c',e=.returned (.slice A' (f+k+(q - t)) c')∧w'.ownsRow b1 3 1 (.slice A' (f+k+(q - t)) c') (f+k+(q - t)) ((M.ds.take f ++ qs.map kidI ++ M.ds.drop t).map kdC))∧W.grownBy w' (Value.slice l.DA q l.dc).ownBlock):=Lib.hid (fun W h1 hk hs=>by
  have h2:=CN6.out.2.2
  rw [List.length_map,← HK.out] at h2
  exact rep_kids b1 q l.dc k l2.dc f t l.DA l2.DA M.ds _ W HND.out h1 (by have:=J4.out.fr;have:=J4.out.rt;omega) (by have:=J4.out.tm;rw [HQ.out] at this;exact this) (by rw [List.length_map];exact HQ1.out) (by have h9:=CN6.out.1;rw [List.length_map,← HK.out] at h9;omega) h2 hk (by omega) (by have:=HB1.out;have:=OUT9.out.size;omega))
 go_upto_region 7 with fail
 have g3:∀ y:SubX (fun j=>l.KA.map (·.block)=some j∨l.DA.map (·.block)=some j) w9,y.at_.cell? ⟨b4,3,none⟩=some (.slice l.KA q l.kc):=fun y=>nd_cell (y.ok_.heap K49.out (HXK.out _ _ _ _ K49.out (by decide) (by decide))) 3 _ rfl
 have g4:∀ y:SubX (fun j=>l.KA.map (·.block)=some j∨l.DA.map (·.block)=some j) w9,y.at_.cell? ⟨b4,4,none⟩=some (.slice l.DA q l.dc):=fun y=>nd_cell (y.ok_.heap K49.out (HXK.out _ _ _ _ K49.out (by decide) (by decide))) 4 _ rfl
 have g5:∀ y:SubX (fun j=>l.KA.map (·.block)=some j∨l.DA.map (·.block)=some j) w9,y.at_.cell? ⟨b11,2,none⟩=some (.slice l2.KA k l2.kc):=fun y=>nd_cell (y.ok_.heap G11.out (HXK.out _ _ _ _ G11.out (by decide) (by decide))) 2 _ rfl
 have g6:∀ y:SubX (fun j=>l.KA.map (·.block)=some j∨l.DA.map (·.block)=some j) w9,y.at_.cell? ⟨b11,3,none⟩=some (.slice l2.DA k l2.dc):=fun y=>nd_cell (y.ok_.heap G11.out (HXK.out _ _ _ _ G11.out (by decide) (by decide))) 3 _ rfl
 refine region_waysX 17 (fun j=>l.KA.map (·.block)=some j∨l.DA.map (·.block)=some j) (.one [0,1,2,3,4,5,6,8,9,10,11,12,13,14] 7 (.one [] 15 (.done [16]))) (by kernel_rfl) (by kernel_rfl) ?_
 rintro wd hbd
 have BD:=Lib.hid hbd
 clear hbd
 rw [wpWaysT_one]
 try simp only [List.map_cons,List.map_nil,opAt,List.getElem?_toArray,List.getElem?_cons_zero,List.getElem?_cons_succ,Option.getD_some]
 repeat (first
  | go_big_quiet_step (fail))
 clear g3 g4 g5 g6
 refine wpQuiet_nil ?_
 obtain ⟨tot,htot⟩:∃ tot,tot=f+k+(q - t):=⟨_,rfl⟩
 have HTOT:=Lib.hid htot
 rw [← htot] at HRK HRD2
 clear htot
 go_wp2_with (go_at_call 92;refine (HRK.out _ BD.out).mono ?_;rintro e x1 ⟨⟨A1,c1,rfl,hr1⟩,hg1⟩;have R1:=Lib.hid hr1;have G1:=Lib.hid hg1;clear hr1 hg1)
 have OMD:=Lib.hid (OM9.out.below BD.out)
 have RKD:Hid (wd.ownsRow b1 38 2 (.slice l.KA q l.kc) q (M.ks.flatMap kyC)):=Lib.hid (by have h1:=OMD.out.2.1;rw [HNK.out] at h1;exact h1)
 have RDD:Hid (wd.ownsRow b1 3 1 (.slice l.DA q l.dc) q (M.ds.map kdC)):=Lib.hid (by have h1:=OMD.out.2.2;rw [HND.out] at h1;exact h1)
 have KN1:Hid (KeptNot 38 wd x1):=Lib.hid (KeptNot.of_row RKD.out G1.out)
 have RD1:Hid (x1.ownsRow b1 3 1 (.slice l.DA q l.dc) q (M.ds.map kdC)):=Lib.hid (KN1.out.row RDD.out (by decide))
 have KD1:Hid (KdAt x1 l2.DA (qs.map kidI)):=Lib.hid (kd_kept (N9.out.below BD.out) KN1.out)
 have OX1:Hid (OuterX (fun j=>l.KA.map (·.block)=some j∨l.DA.map (·.block)=some j) w9 x1):=Lib.hid ((outerX_of_below BD.out).grown G1.out (fun j hj=>.inl (.inl (own_map hj))))
 refine ⟨⟨⟨_,OX1.out⟩,rfl⟩,?_⟩
 try simp only [Act.put,List.setIfInBounds_toArray,List.set_cons_zero,List.set_cons_succ]
 rw [wpWaysT_one]
 try simp only [List.map_cons,List.map_nil,opAt,List.getElem?_toArray,List.getElem?_cons_zero,List.getElem?_cons_succ,Option.getD_some]
 refine wpQuiet_nil ?_
 go_wp2_with (go_at_call 93;refine (HRD2.out _ RD1.out KD1.out OX1.out.size).mono ?_;rintro e x2 ⟨⟨A2,c2,rfl,hr2⟩,hg2⟩;have R2:=Lib.hid hr2;have G2:=Lib.hid hg2;clear hr2 hg2)
 have KN2:Hid (KeptNot 3 x1 x2):=Lib.hid (KeptNot.of_row RD1.out G2.out)
 have R12:=Lib.hid (KN2.out.row R1.out (by decide))
 have OX2:Hid (OuterX (fun j=>l.KA.map (·.block)=some j∨l.DA.map (·.block)=some j) w9 x2):=Lib.hid (OX1.out.grown G2.out (fun j hj=>.inl (.inr (own_map hj))))
 refine ⟨⟨⟨_,OX2.out⟩,rfl⟩,?_⟩
 try simp only [Act.put,List.setIfInBounds_toArray,List.set_cons_zero,List.set_cons_succ]
 rw [wpWaysT_done]
 simp only [List.map_cons,List.map_nil,List.drop_succ_cons,List.drop_zero,opAt,List.getElem?_toArray,List.getElem?_cons_zero,List.getElem?_cons_succ,Option.getD_some]
 repeat (first
  | go_big_quiet_step (fail))
 refine wpQuiet_nil ?_
 have K6X:Hid (x2.heap[b6]?=some (.cells #[.bool false,.slice none 0 0,.slice none 0 0,.slice none 0 0] 86 (0,0))):=Lib.hid (OX2.out.heap K69.out (HXK.out _ _ _ _ K69.out (by decide) (by decide)))
 go_wp2_with (refine wpList_store_row rfl 86 (.tmp 6) (.tmp 52) rfl b6 #[.bool false,.slice none 0 0,.slice A1 tot c1,.slice A2 tot c2] rfl rfl 86 _ K6X.out (by kernel_rfl) rfl (by simp [Value.oneCell']) ?_)
 obtain ⟨n',hn'⟩:∃ n':NodeD,n'=⟨false,[],M.ks.take f ++ (ps.map Prod.fst).map leastK ++ M.ks.drop t,M.ds.take f ++ qs.map kidI ++ M.ds.drop t⟩:=⟨_,rfl⟩
 have hfq:f≤q∧t≤q:=by have:=J4.out.fr;have:=J4.out.rt;have:=J4.out.tm;have:=HQ.out;omega
 have hps:ps.length=k:=HK.out.symm
 have nK:n'.ks.length=tot:=by rw [hn'];simp only [List.length_append,List.length_map,List.length_take,List.length_drop,HNK.out,hps];have:=HTOT.out;omega
 have nD:n'.ds.length=tot:=by rw [hn'];simp only [List.length_append,List.length_map,List.length_take,List.length_drop,HND.out,HQ1.out];have:=HTOT.out;omega
 have nE:n'.es.length=0:=by rw [hn'];rfl
 have nl:n'.leaf=false:=by rw [hn']
 obtain ⟨x3,hx3⟩:∃ x3,x3=x2.setRow b6 #[.bool false,.slice none 0 0,.slice A1 tot c1,.slice A2 tot c2]:=⟨_,rfl⟩
 have KN3:KeptNot 86 x2 x3:=by rw [hx3];exact KeptNot.of_setRow K6X.out _
 have G6:x3.heap[b6]?=some (.cells #[.bool false,.slice none 0 0,.slice A1 tot c1,.slice A2 tot c2] 86 (0,0)):=by rw [hx3];exact setRow_heap _ _ _ _ _ _ K6X.out
 have OB3:∀ j,j≠b6→x3.heap[j]?=x2.heap[j]?:=fun j hj=>by rw [hx3];exact setRow_other x2 b6 j _ hj
 have SZ3:x3.heap.size=x2.heap.size∧x3.os=x2.os∧x3.tape=x2.tape∧x3.output=x2.output:=by rw [hx3];exact ⟨by simp,rfl,rfl,rfl⟩
 rw [← hx3]
 refine bodyPost_ret (v:=.tuple #[.agg #[.bool false,.slice none 0 0,.slice A1 tot c1,.slice A2 tot c2],.int .i64 0]) (results_cell_tmpB (p:=6) (u:=7) (ty:=86) rfl _ _ b6 86 _ (0,0) _ rfl G6 Tryz.underlying86 rfl (by kernel_rfl)) rfl ?_
 clear hx3
 have hb6:w.heap.size≤b6:=by have:=HB6.out;omega
 have hX9:OutS gc B0 (fun j=>l.KA.map (·.block)=some j∨l.DA.map (·.block)=some j) w x3:=by
  have h1:OutS gc B0 (fun j=>l.KA.map (·.block)=some j∨l.DA.map (·.block)=some j) w x2:=(OUT9.out.wider (fun _ h=>h.elim)).trans (OutS.of_outerX OX2.out)
  exact ⟨SZ3.2.1.trans h1.os,SZ3.2.2.1.trans h1.tape,SZ3.2.2.2.trans h1.output,by rw [SZ3.1];exact h1.size,fun j hj hg hX hT=>(OB3 j (by omega)).trans (h1.block j hj hg hX hT)⟩
 have eK:n'.ks=M.ks.take f ++ (ps.map fun x=>leastK x.1) ++ M.ks.drop t:=by rw [hn'];simp [List.map_map,Function.comp_def]
 have eD:n'.ds=M.ds.take f ++ qs.map kidI ++ M.ds.drop t:=by rw [hn']
 have zf:(qs.zip ps).map Prod.fst=qs:=List.map_fst_zip (by rw [HQ1.out,hps];exact Nat.le_refl _)
 have C2:ChgS x2 gc gv p B0 (marks U1 qs) V lv7 (L ++ qs.zip ps):=⟨C9.out.chg.keep (OX2.out.block gc C9.out.chg.lt (HXK.out _ _ _ _ C9.out.chg (by decide) (by decide))),row_keep C9.out.row (fun j cur _ hj=>OX2.out.block j (Array.getElem?_eq_some_iff.1 hj).1 (HXK.out _ _ _ _ hj (by decide) (by decide))),C9.out.B0⟩
 have zs:(qs.zip ps).map Prod.snd=ps:=List.map_snd_zip (by rw [HQ1.out,hps];exact Nat.le_refl _)
 have z1:(qs.zip ps).map (fun x=>x.2.1)=ps.map Prod.fst:=by
  conv=>rhs;rw [← zs]
  rw [List.map_map]
  rfl
 have z2:(qs.zip ps).map (fun x=>leastK x.2.1)=(ps.map Prod.fst).map leastK:=by
  rw [← z1,List.map_map]
  rfl
 have z3:(qs.zip ps).map (fun x=>kidI x.1)=qs.map kidI:=by
  conv=>rhs;rw [← zf]
  rw [List.map_map]
  rfl
 obtain ⟨es1,es2,es3,es4,es5⟩:=J4.out.same HFW.out
 refine ⟨n',⟨none,0,A1,c1,A2,c2⟩,by rw [nl,nE,nK,nD],qs.zip ps,⟨lv7,?_⟩,?_,zf⟩
 ·rw [es5] at C2
  refine { own:=⟨?_,?_,?_⟩,chg:=KN3.chg C2 (by decide) (by decide),lay:=fun x hx=>?_,out:=hX9 }
  ·rw [nE,hn']
   exact World.ownsRow_nil _ _ _ _
  ·rw [nK,eK]
   exact KN3.row R12.out (by decide)
  ·rw [nD,eD]
   exact KN3.row R2.out (by decide)
  ·have h1:=OL9.out x hx
   have hbk:=own_blk h1
   refine own_kept KN3 (h1.keepT fun b cs T fr hb hA hT=>OX2.out.block b (Array.getElem?_eq_some_iff.1 hb).1 (fun hx2=>?_)) (by decide) (by decide) (by decide)
   have hB:B0≤b:=by
    rcases hA with hA | hA | hA
    ·obtain ⟨z,hz,rfl⟩:=Option.map_eq_some_iff.1 hA
     exact (hbk z (.inl hz)).1
    ·obtain ⟨z,hz,rfl⟩:=Option.map_eq_some_iff.1 hA
     exact (hbk z (.inr (.inl hz))).1
    ·obtain ⟨z,hz,rfl⟩:=Option.map_eq_some_iff.1 hA
     exact (hbk z (.inr (.inr hz))).1
   rcases hx2 with hx2 | hx2
   ·obtain ⟨z,hz,rfl⟩:=Option.map_eq_some_iff.1 hx2
    have:=HSB.out z (.inl hz)
    omega
   ·obtain ⟨z,hz,rfl⟩:=Option.map_eq_some_iff.1 hx2
    have:=HSB.out z (.inr hz)
    omega
 ·refine ⟨by rw [z1,← es3];exact SP6.out,?_,by rw [zf]⟩
  rw [hn',es1,es2]
  dsimp only
  rw [z2,z3]
end Go.Proofs.YtgkddhncfaeidaaGreat
