/- Squeezed: the texts as they are written lie in wip/tpl. -/
import Derived.Test.YtgkddhncfaeidaaGreatPart34
import Derived.Test.YtgkddhncfaeidaaGreatTfWi
set_option maxRecDepth 100000
set_option maxHeartbeats 16000000
set_option linter.unusedSimpArgs false
set_option linter.unusedVariables false
namespace Go.Proofs.YtgkddhncfaeidaaGreat
set_option linter.unnecessarySimpa false
open Go.RowKit Go.ChangeShapes Go.WideShapes Go.ChangeAt CrcM PageM
attribute [local go_sem] Oper.semAt_some
structure ClB (w W:World) (gc gv g gen p B0 h b1 b3 b5 b6 b7:Nat) (Sm:Nat→NodeD→List (Nat × (NodeD × NdL))→List Bool→Prop) (Uv Vv V:List Bool) (pre:List StepM) (B N gs gn Ls cs cn:Nat) (rw:Value) (st nw:List UInt8) (ws:List (Nat × List UInt8)) (j:Nat) (n:NodeD) (l:NdL) (L:List (Nat × (NodeD × NdL))) (U:List Bool) (lv:Value) (bo:Nat):Prop where
 own:OwnN W bo n l
 box:W.heap[b5]?=some (.cells #[.bool n.leaf,.slice l.EA n.es.length l.ec,.slice l.KA n.ks.length l.kc,.slice l.DA n.ds.length l.dc] 86 (0,0))
 c3:W.heap[b3]?=some (.cells #[.pointer (some ⟨gc,0,none⟩)] 78 (0,0))
 c6:W.heap[b6]?=some (.cells #[.int .i64 0,.int .i64 0] 43 (0,0))
 c7:W.heap[b7]?=some (.cells #[.int .i64 0] 44 (0,0))
 chg:ChgS W gc gv p B0 U V lv L
 fit:U.length=512∧okM (p:Int) U∨j≠0
 lay:∀ x ∈ L,OwnN W B0 x.2.1 x.2.2
 same:Sm j n L U
 out:OutS gc B0 (WayX pre) w W
 view:ViewAt W gv g gen (p:Int) Uv Vv
 disk:Dk W B N g gs gn rw Ls cs cn st nw ws true (-1)
 rest:∀ (i:Nat) (x:StepM),pre[i]?=some x→i<h - j→OwnN W b1 x.s.n x.l
 b1W:b1≤W.heap.size
 B0W:B0≤W.heap.size
theorem ClB.keep {w A W:World} {gc gv g gen p B0 h b1 b3 b5 b6 b7:Nat} {Sm:Nat→NodeD→List (Nat × (NodeD × NdL))→List Bool→Prop} {Uv Vv V:List Bool} {pre:List StepM} {B N gs gn Ls cs cn:Nat} {rw:Value} {st nw:List UInt8} {ws:List (Nat × List UInt8)} {j:Nat} {n:NodeD} {l:NdL} {L:List (Nat × (NodeD × NdL))} {U:List Bool} {lv:Value} {bo:Nat} (h0:ClB w A gc gv g gen p B0 h b1 b3 b5 b6 b7 Sm Uv Vv V pre B N gs gn Ls cs cn rw st nw ws j n l L U lv bo)
 (os:W.os=A.os) (tp:W.tape=A.tape) (ot:W.output=A.output) (hs:A.heap.size≤W.heap.size) (hlow:∀ k,k<w.heap.size→W.heap[k]?=A.heap[k]?) (hk:∀ (k:Nat) (cs:Array Value) (T:TypeId) (fr:Nat × Nat),A.heap[k]?=some (Obj.cells cs T fr)→W.heap[k]?=A.heap[k]?) :
 ClB w W gc gv g gen p B0 h b1 b3 b5 b6 b7 Sm Uv Vv V pre B N gs gn Ls cs cn rw st nw ws j n l L U lv bo :=
 { h0 with
   own:=h0.own.keepT fun b cs T fr hb _ _=>hk b cs T fr hb
   box:=(hk _ _ _ _ h0.box).trans h0.box
   c3:=(hk _ _ _ _ h0.c3).trans h0.c3
   c6:=(hk _ _ _ _ h0.c6).trans h0.c6
   c7:=(hk _ _ _ _ h0.c7).trans h0.c7
   chg:=⟨h0.chg.chg.keep (hk _ _ _ _ h0.chg.chg),row_keep h0.chg.row (fun k cur _ hc=>hk _ _ _ _ hc),h0.chg.B0⟩
   lay:=fun x hx=>(h0.lay x hx).keepT fun b cs T fr hb _ _=>hk b cs T fr hb
   out:=⟨os.trans h0.out.os,tp.trans h0.out.tape,ot.trans h0.out.output,Nat.le_trans h0.out.size hs,fun k hkw hg hX hT=>(hlow k hkw).trans (h0.out.block k hkw hg hX hT)⟩
   view:=h0.view.keep (hk _ _ _ _ h0.view)
   disk:=h0.disk.keepTy hs fun b cs T fr hb _=>hk b cs T fr hb
   rest:=fun i x hx hi=>(h0.rest i x hx hi).keepT fun b cs T fr hb _ _=>hk b cs T fr hb
   b1W:=Nat.le_trans h0.b1W hs
   B0W:=Nat.le_trans h0.B0W hs }
theorem ClB.below {w A W:World} {gc gv g gen p B0 h b1 b3 b5 b6 b7:Nat} {Sm:Nat→NodeD→List (Nat × (NodeD × NdL))→List Bool→Prop} {Uv Vv V:List Bool} {pre:List StepM} {B N gs gn Ls cs cn:Nat} {rw:Value} {st nw:List UInt8} {ws:List (Nat × List UInt8)} {j:Nat} {n:NodeD} {l:NdL} {L:List (Nat × (NodeD × NdL))} {U:List Bool} {lv:Value} {bo:Nat} (h0:ClB w A gc gv g gen p B0 h b1 b3 b5 b6 b7 Sm Uv Vv V pre B N gs gn Ls cs cn rw st nw ws j n l L U lv bo) (hb:Below A.heap.size A W):ClB w W gc gv g gen p B0 h b1 b3 b5 b6 b7 Sm Uv Vv V pre B N gs gn Ls cs cn rw st nw ws j n l L U lv bo :=
 h0.keep hb.os hb.tape hb.output hb.size (fun k hk=>hb.block k (Nat.lt_of_lt_of_le hk h0.out.size)) (fun k cs T fr hk=>hb.block k (Array.getElem?_eq_some_iff.1 hk).1)
def SmF (pre:List StepM) (n0:NodeD) (U0:List Bool) (qs:List Nat) (j:Nat) (n:NodeD) (L:List (Nat × (NodeD × NdL))) (U1:List Bool):Prop :=
 (j=0→n=n0∧L=[]∧U1=U0)∧(j=1→L.map Prod.fst=qs∧U1=marks U0 qs∧∃ x,pre[0]?=some x∧WiS x.s n0 n L U0 U1)
theorem climb_by (gc gv g gen p B0 h b1 bo:Nat) (er:Int) (Rs:Int→Int→List (Nat × (NodeD × NdL))→List Bool→Prop) (qs:List Nat) (U Uv Vv V:List Bool) {B N gs gn Ls cs cn:Nat} {rw:Value} {st nw:List UInt8} {ws:List (Nat × List UInt8)} (pre:List StepM) (A:Option Addr) (c bw:Nat) (n0:NodeD) (l0:NdL) (rd:Nat→NodeD→Prop) (E:Nat→List EntD) (El':List EntD)
 (hrd:∀ a n,rd a n→rdQ nw Ls a n∧2≤a∧a<p∧V.getD a false=true) (hlen:pre.length=h+1) (hh1:h≤1) (hall:∀ x ∈ pre,rd x.s.a x.s.n)
 (hlink:∀ j,j<h→∃ x parts,pre[h - 1 - j]?=some x∧LinkD rd j x.s (E j) (E (j+1)) parts) (ht:TrO rd 0 n0 El') (hn0:n0.size≤capN n0.leaf+1) (hlst:∀ (i:Nat) (x:StepM),pre[i]?=some x→i<h→x.s.at_+1=x.s.n.ds.length) (hfw:h=1→fewB n0=false) (hqs:h=1→∀ ps,SplitOf n0 ps→qs.length=ps.length) (htk:h=1→TakS gc gv g gen p Uv Vv V (gaveN U (pre.map fun x=>x.s.a)) qs)
 (hcl:∀ n L U1,SmF pre n0 (gaveN U (pre.map fun x=>x.s.a)) qs h n L U1→cleanN n∧n.size≤32)
 (hV:V.length=512) (okV:okM (p:Int) V) (hU:U.length=512) (okU:okM (p:Int) U) (w:World) (hc:ChgS w gc gv p B0 U V (.slice none 0 0) []) (hv:ViewAt w gv g gen (p:Int) Uv Vv) (hd:Dk w B N g gs gn rw Ls cs cn st nw ws true (-1)) (hrow:w.ownsRow bw 96 6 (.slice A (h+1) c) (h+1) (pre.flatMap stC))
 (hnod:∀ (i:Nat) (x:StepM),pre[i]?=some x→i<h→OwnN w b1 x.s.n x.l) (hsep:pre.Pairwise (fun x y=>SepL x.l y.l)) (hblk:∀ x ∈ pre,∀ a,x.l.KA=some a∨x.l.DA=some a→a.block<B0) (hnn:OwnN w bo n0 l0) (hb1:b1≤w.heap.size) (hB0:B0≤w.heap.size)
 (htop:∀ (W W1:World) (n:NodeD) (l:NdL) (L:List (Nat × (NodeD × NdL))) (lv:Value) (U1:List Bool) (A:Option Addr) (c:Nat) (ps:List (NodeD × NdL)),OutS gc B0 (WayX pre) w W→ViewAt W gv g gen (p:Int) Uv Vv→ChgS W gc gv p B0 U1 V lv L→(∀ x ∈ L,OwnN W B0 x.2.1 x.2.2)→B0≤W.heap.size→SmF pre n0 (gaveN U (pre.map fun x=>x.s.a)) qs h n L U1→Below W.heap.size W W1→SplitOf n (ps.map Prod.fst)→W1.ownsRow W.heap.size 86 4 (.slice A ps.length c) ps.length (ps.flatMap ndP)→(∀ x ∈ ps,OwnN W1 W.heap.size x.1 x.2) →
  Calls Tryz.prog 30 #[.pointer (some ⟨gc,0,none⟩),.slice A ps.length c,.int .i64 ((h:Int)+1)] W1 fun e w'=>∃ (ra rh:Int),e=.returned (.tuple #[.agg #[.int .i64 ra,.int .i64 rh],.int .i64 er])∧OutS gc B0 (fun _=>False) W1 w'∧(er=0→∃ (L':List (Nat × (NodeD × NdL))) (U':List Bool) (lv':Value),ChgS w' gc gv p B0 U' V lv' L'∧(∀ x ∈ L',NodeT w' x.2.1 x.2.2)∧Rs ra rh L' U')) :
 Calls Tryz.prog 38 #[.pointer (some ⟨gc,0,none⟩),.slice A (h+1) c,.agg #[.bool n0.leaf,.slice l0.EA n0.es.length l0.ec,.slice l0.KA n0.ks.length l0.kc,.slice l0.DA n0.ds.length l0.dc]] w fun e w'=>∃ (ra rh:Int),e=.returned (.tuple #[.agg #[.int .i64 ra,.int .i64 rh],.int .i64 er])∧OutS gc B0 (WayX pre) w w'∧(er=0→∃ (L':List (Nat × (NodeD × NdL))) (U':List Bool) (lv':Value),ChgS w' gc gv p B0 U' V lv' L'∧(∀ x ∈ L',NodeT w' x.2.1 x.2.2)∧Rs ra rh L' U'):=by
 obtain ⟨Sm,hSm⟩:∃ Sm,Sm=SmF pre n0 (gaveN U (pre.map fun x=>x.s.a)) qs:=⟨_,rfl⟩
 have HSM:=Lib.hid hSm
 have HS0:Hid (Sm 0 n0 [] (gaveN U (pre.map fun x=>x.s.a))):=Lib.hid (by rw [hSm];exact ⟨fun _=>⟨rfl,rfl,rfl⟩,fun h=>by cases h⟩)
 obtain ⟨U0,hU0⟩:∃ U0,U0=gaveN U (pre.map fun x=>x.s.a):=⟨_,rfl⟩
 rw [← hU0] at htk hcl htop hSm
 have HU0:=Lib.hid hU0
 have HH1:=Lib.hid hh1
 have HLST:=Lib.hid hlst
 have HFW:=Lib.hid hfw
 have HQS:=Lib.hid hqs
 have HTK:=Lib.hid htk
 have HCL:=Lib.hid hcl
 have HTO:=Lib.hid htop
 have h4:h≤4:=by omega
 clear hU0 hSm hh1 hlst hfw hqs htk hcl htop
 obtain ⟨b,hAb,hbw,hnc,hcm,hsr⟩:=SRow.of_row hrow hlen.symm (by omega)
 subst hAb
 have HRD:=Lib.hid hrd
 have HLEN:=Lib.hid hlen
 have HALL:=Lib.hid hall
 have HLK:=Lib.hid hlink
 have HV:=Lib.hid hV
 have HOV:=Lib.hid okV
 have HSR:=Lib.hid hsr
 have HSEP:=Lib.hid hsep
 have HBLK:=Lib.hid hblk
 have HC:=Lib.hid hc
 have HNN:=Lib.hid hnn
 have HND:=Lib.hid hnod
 have HVW:=Lib.hid hv
 have HD:=Lib.hid hd
 have HT:=Lib.hid ht
 have HF:Hid (FitU p V U 0 []):=Lib.hid ⟨hU,okU,⟨[],rfl,List.nodup_nil,fun a ha=>by cases ha⟩,List.nodup_nil,fun a ha=>by cases ha⟩
 have HN0:=Lib.hid hn0
 have HB1:=Lib.hid hb1
 have HB0:=Lib.hid hB0
 unfold maxLen at hcm
 clear hrd hlen hall hlink hV okV hU okU hsr hsep hblk hc hnn hnod hv hd ht hn0 hb1 hB0 hrow
 obtain ⟨w4,hw4⟩:∃ w4,w4=(((w.alloc (.cells #[.pointer (some ⟨gc,0,none⟩)] 78)).alloc (.cells #[.bool n0.leaf,.slice l0.EA n0.es.length l0.ec,.slice l0.KA n0.ks.length l0.kc,.slice l0.DA n0.ds.length l0.dc] 86)).alloc (.cells #[.int .i64 0,.int .i64 0] 43)).alloc (.cells #[.int .i64 0] 44):=⟨_,rfl⟩
 refine (callsIn_wide (n:=3)).1 ?_
 refine callsIn_of_wp_marks Tryz.func38 rfl trivial ?_ rfl
 simp only [Tryz.ntmps38,List.size_toArray,List.length_cons,List.length_nil,Nat.reduceAdd,Nat.reduceSub,Array.replicate_succ,Array.replicate_zero,List.push_toArray,List.append_toArray,List.nil_append,List.cons_append]
 refine wpIn_wide.2 ?_
 go_upto_region 1 with fail
 have B4:Hid (Below w.heap.size w w4):=Lib.hid (by
  rw [hw4]
  exact ((((Below.refl _ w).alloc (Nat.le_refl _) _).alloc (by simp) _).alloc (by simp;omega) _).alloc (by simp;omega) _)
 have A3:Hid (w4.heap[w.heap.size]?=some (.cells #[.pointer (some ⟨gc,0,none⟩)] 78 (0,0))):=Lib.hid (by
  rw [hw4]
  exact row_stays (row_stays (row_stays (heap_alloc_new w _) (alloc_bel rfl)) (alloc_bel rfl)) (alloc_bel rfl))
 have A5:Hid (w4.heap[w.heap.size+1]?=some (.cells #[.bool n0.leaf,.slice l0.EA n0.es.length l0.ec,.slice l0.KA n0.ks.length l0.kc,.slice l0.DA n0.ds.length l0.dc] 86 (0,0))):=Lib.hid (by
  rw [hw4]
  have h1:=heap_alloc_new (w.alloc (.cells #[.pointer (some ⟨gc,0,none⟩)] 78)) (.cells #[.bool n0.leaf,.slice l0.EA n0.es.length l0.ec,.slice l0.KA n0.ks.length l0.kc,.slice l0.DA n0.ds.length l0.dc] 86)
  rw [World.size_alloc] at h1
  exact row_stays (row_stays h1 (alloc_bel rfl)) (alloc_bel rfl))
 have A6:Hid (w4.heap[w.heap.size+1+1]?=some (.cells #[.int .i64 0,.int .i64 0] 43 (0,0))):=Lib.hid (by
  rw [hw4]
  have h1:=heap_alloc_new ((w.alloc (.cells #[.pointer (some ⟨gc,0,none⟩)] 78)).alloc (.cells #[.bool n0.leaf,.slice l0.EA n0.es.length l0.ec,.slice l0.KA n0.ks.length l0.kc,.slice l0.DA n0.ds.length l0.dc] 86)) (.cells #[.int .i64 0,.int .i64 0] 43)
  rw [World.size_alloc,World.size_alloc] at h1
  exact row_stays h1 (alloc_bel rfl))
 have A7:Hid (w4.heap[w.heap.size+1+1+1]?=some (.cells #[.int .i64 0] 44 (0,0))):=Lib.hid (by
  rw [hw4]
  have h1:=heap_alloc_new (((w.alloc (.cells #[.pointer (some ⟨gc,0,none⟩)] 78)).alloc (.cells #[.bool n0.leaf,.slice l0.EA n0.es.length l0.ec,.slice l0.KA n0.ks.length l0.kc,.slice l0.DA n0.ds.length l0.dc] 86)).alloc (.cells #[.int .i64 0,.int .i64 0] 43)) (.cells #[.int .i64 0] 44)
  rw [World.size_alloc,World.size_alloc,World.size_alloc] at h1
  exact h1)
 rw [← hw4]
 clear hw4
 obtain ⟨b3,hb3⟩:∃ b3,b3=w.heap.size:=⟨_,rfl⟩
 obtain ⟨b5,hb5⟩:∃ b5,b5=w.heap.size+1:=⟨_,rfl⟩
 obtain ⟨b6,hb6⟩:∃ b6,b6=w.heap.size+1+1:=⟨_,rfl⟩
 obtain ⟨b7,hb7⟩:∃ b7,b7=w.heap.size+1+1+1:=⟨_,rfl⟩
 rw [← hb3] at A3
 rw [← hb5] at A5
 rw [← hb6] at A6
 rw [← hb7] at A7
 rw [← hb7,← hb6,← hb5,← hb3]
 have HBS:Hid (b3=w.heap.size∧b5=w.heap.size+1∧b6=w.heap.size+1+1∧b7=w.heap.size+1+1+1):=Lib.hid ⟨hb3,hb5,hb6,hb7⟩
 clear hb3 hb5 hb6 hb7
 have G4:Hid (ClG w w4 gc gv p B0 b3 b5 b6 b7 0 V n0 l0 U):=Lib.hid ⟨HC.out.below B4.out,HF.out,outerX_of_below B4.out,A5.out,A3.out,A6.out,A7.out⟩
 clear A3 A5 A6 A7 B4
 obtain ⟨Gv,hGv⟩:∃ Gv:Nat→List Bool→Prop,Gv=fun k U'=>U'=gaveN U ((pre.take k).map fun x=>x.s.a):=⟨_,rfl⟩
 have HGV0:Hid (Gv 0 U):=Lib.hid (by rw [hGv];rfl)
 have HGVS:Hid (∀ k U' x,pre[k]?=some x→Gv k U'→Gv (k+1) (markN U' x.s.a false 1)):=Lib.hid (fun k U' x hx hg=>by
  rw [hGv] at hg ⊢
  dsimp only
  rw [List.take_add_one,hx,List.map_append,hg]
  exact (gaveN_snoc _ _ _).symm)
 have HGVE:Hid (∀ U',Gv (h+1) U'→Sm 0 n0 [] U'):=Lib.hid (fun U' hg=>by
  rw [hGv] at hg
  rw [hg,List.take_of_length_le (by rw [HLEN.out];exact Nat.le_refl _)]
  exact HS0.out)
 clear hGv
 go_upto_region 2 with fail
 go_loopw [15] (fun iv wr=>∃ (k:Nat) (U:List Bool),Hid (Gv k U)∧k≤h+1∧iv=.int .i64 (k:Int)∧Hid (ClG w wr gc gv p B0 b3 b5 b6 b7 0 V n0 l0 U)) (fun iv _=>h+1 - (intOf iv).toNat)
 case atStart=>exact ⟨0,U,HGV0,Nat.zero_le _,rfl,G4⟩
 case round =>
  clear G4
  obtain ⟨k,U,HGK,hk,rfl,HG⟩:=hrel
  have hkw:wrap64 ((k:Int)+1)=(k:Int)+1:=by unfold wrap64;omega
  by_cases hlt:k<h+1
  ·have hkm:decide ((k:Int)<((h+1:Nat):Int))=true:=by simp;omega
   have hkm2:decide ((k:Int)<(h:Int)+1)=true:=by simp;omega
   obtain ⟨x,hx⟩:∃ x,pre[k]?=some x:=⟨_,List.getElem?_eq_getElem (by rw [HLEN.out];exact hlt)⟩
   have HX:=Lib.hid hx
   have HXR:=Lib.hid (HRD.out _ _ (HALL.out x (List.mem_of_getElem? hx)))
   have HRG:Hid (wr.rangeAt b (k*6) (stC x)):=Lib.hid (by
    obtain ⟨cur,q1,_⟩:=HSR.out
    exact (HSR.out.same (HG.out.out.block b (Array.getElem?_eq_some_iff.1 q1).1 (fun e=>row_ne_typed HC.out.chg e q1 (by decide)))).range hx)
   clear hx
   have c3:=nd_cell HG.out.c3 0 (.pointer (some ⟨gc,0,none⟩)) rfl
   go_upto_region 4 with (first
    | (refine wpList_load_mid rfl 96 (.tmp 17) rfl b (k*6) rfl (stC x) _ HRG.out Tryz.underlying96 rfl (by kernel_rfl) ?_)
    | (refine wpList_store_row rfl 96 (.tmp 9) (.tmp 18) rfl wr.heap.size (stC x).toArray rfl rfl 96 _ (heap_alloc_new _ _) (by kernel_rfl) rfl (by simp [stC,Value.oneCell']) ?_))
   obtain ⟨w5,hw5⟩:∃ w5,w5=(wr.alloc (.cells #[.int .i64 0,.bool false,.slice none 0 0,.slice none 0 0,.slice none 0 0,.int .i64 0] 96)).setRow wr.heap.size (stC x).toArray:=⟨_,rfl⟩
   have B5:Hid (Below wr.heap.size wr w5):=Lib.hid (by rw [hw5];exact below_setRow (alloc_bel rfl) (Nat.le_refl _) _)
   have K5:Hid (w5.heap[wr.heap.size]?=some (.cells (stC x).toArray 96 (0,0))):=Lib.hid (by rw [hw5];exact setRow_heap _ _ _ _ _ _ (heap_alloc_new _ _))
   rw [← hw5]
   clear hw5 c3
   have HG5:=Lib.hid (HG.out.below B5.out)
   have c3:=nd_cell HG5.out.c3 0 (.pointer (some ⟨gc,0,none⟩)) rfl
   have c9:=nd_cell K5.out 0 (.int .i64 (x.s.a:Int)) rfl
   have HGV:=Lib.hid (give_any gc gv p U V (.slice none 0 0) HG.out.fit.len HV.out HG.out.fit.ok x.s.a HXR.out.2.1 HXR.out.2.2.1 w5 HG5.out.chg.chg)
   try simp only [Act.put,List.setIfInBounds_toArray,List.set_cons_zero,List.set_cons_succ]
   go_wp2_with (go_at_call 59;refine HGV.out.mono ?_;rintro e w6 ⟨rfl,hc6,ho6⟩;have HG6:=Lib.hid (HG5.out.give HXR.out.2.1 HXR.out.2.2.1 HXR.out.2.2.2 hc6 ho6);clear hc6 ho6)
   go_roundw
   case rel=>exact ⟨k+1,markN U x.s.a false 1,Lib.hid (HGVS.out k U x HX.out HGK.out),by omega,by go_num,HG6⟩
   case measure=>first | (simp [intOf];done) | (simp [intOf];omega) | exact meas_step5 hlt hkw
  ·obtain rfl:k=h+1:=by omega
   have hkm:decide (((h+1:Nat):Int)<((h+1:Nat):Int))=false:=by simp
   have hkm2:decide (((h:Int)+1)<(h:Int)+1)=false:=by simp
   have hw1:wrap64 (((h+1:Nat):Int) - 1)=(h:Int):=by unfold wrap64;omega
   have hw2:wrap64 ((h:Int)+1 - 1)=(h:Int):=by unfold wrap64;omega
   have hhc:(h:Int)≤(c:Int):=by omega
   go_upto_region 7 with (go_at_call 60;refine (callsIn_wide.1 (back_in 3 _ _ _ wr)).mono ?_;rintro e w5 ⟨rfl,hw5⟩;have HW5:=Lib.hid hw5;clear hw5)
   clear hkm hkm2 hw1 hw2 hhc hkw hlt hk
   obtain ⟨Bs,hBs⟩:∃ Bs,Bs=wr.heap.size:=⟨_,rfl⟩
   have B5:Hid (Below wr.heap.size wr w5):=Lib.hid (alloc_bel HW5.out)
   have Z5:Hid (w5.heap.size=Bs+1):=Lib.hid (by rw [HW5.out,hBs];simp)
   have X5:Hid (Boxed w5 Bs 90 (.slice (some ⟨b,0,none⟩) h c)):=Lib.hid (by rw [HW5.out,hBs];exact heap_alloc_new _ _)
   have OU5:Hid (OuterX (fun k=>k=gc) w w5):=Lib.hid (outX_trans HG.out.out (outerX_of_below B5.out))
   have SR5:Hid (SRow w5 b pre):=Lib.hid (by
    obtain ⟨cur,q1,_⟩:=HSR.out
    exact HSR.out.same (OU5.out.block b (Array.getElem?_eq_some_iff.1 q1).1 (fun e=>row_ne_typed HC.out.chg e q1 (by decide))))
   have LB:Hid (b<w.heap.size∧w.heap.size≤Bs):=Lib.hid (by
    obtain ⟨cur,q1,_⟩:=HSR.out
    exact ⟨(Array.getElem?_eq_some_iff.1 q1).1,by rw [hBs];exact HG.out.out.size⟩)
   have G5:=Lib.hid (HG.out.below B5.out)
   rw [← hBs]
   clear hBs
   have I5:Hid (ClB w w5 gc gv g gen p B0 h b1 b3 b5 b6 b7 Sm Uv Vv V pre B N gs gn Ls cs cn rw st nw ws 0 n0 l0 [] U (.slice none 0 0) bo):=Lib.hid
    { own:=HNN.out.offgc HC.out.chg OU5.out
      box:=G5.out.box
      c3:=G5.out.c3
      c6:=G5.out.c6
      c7:=G5.out.c7
      chg:=G5.out.chg
      fit:=.inl ⟨G5.out.fit.len,G5.out.fit.ok⟩
      lay:=fun x hx=>(by cases hx)
      same:=HGVE.out U HGK.out
      out:=OutS.of_outer OU5.out
      view:=HVW.out.offgc HC.out.chg OU5.out
      disk:=HD.out.offgc HC.out.chg OU5.out
      rest:=fun i x hx hi=>(HND.out i x hx (by omega)).offgc HC.out.chg OU5.out
      b1W:=Nat.le_trans HB1.out OU5.out.size
      B0W:=Nat.le_trans HB0.out OU5.out.size }
   clear HG G5 HW5 B5
   refine wp_namedC ?_
   intro T0 hT0
   refine (wpIn_wide (n:=3)).1 ?_
   refine wpIn_rangeFunc_X rfl (by decide) (gf:=90) (lb:=#[.pointer (some ⟨Bs,0,none⟩)]) (by rw [hT0];rfl) trivial (enters_of Tryz.func90 (by kernel_rfl) rfl)
    (back_seq 2 (by decide) Bs b c h pre (by rw [HLEN.out];omega) (by omega) (by omega) hcm)
    (fun A B l o _ ho _ h=>by rw [← h];exact ho) KpB.trans (fun W l o o' hl ho hc=>by
     have:=LB.out;have:=Z5.out
     exact ⟨World.putObj_heap_other (by omega),World.putObj_heap_other (by omega)⟩) (fun _=>rfl)
    (fun W1 hb hz=>⟨row_stays X5.out hb,SR5.out.same (hb.block b (by have:=LB.out;have:=Z5.out;omega))⟩)
    (fun xs s A B row hs hg hr=>hs) (fun xs s A B row hs hg hr=>hs)
    (fun ys W=>(ys.length≤h∧w5.heap.size≤W.heap.size∧Boxed W Bs 90 (.slice (some ⟨b,0,none⟩) h c)∧SRow W b pre)∧∃ n l L U lv bo,ClB w W gc gv g gen p B0 h b1 b3 b5 b6 b7 Sm Uv Vv V pre B N gs gn Ls cs cn rw st nw ws ys.length n l L U lv bo) (fun _ _ _=>False)
    (fun s A B row hs hg hr=>by
     obtain ⟨hl,n,l,L,U,lv,bo,hs⟩:=hs
     have hkk:∀ (k:Nat) (cs:Array Value) (T:TypeId) (fr:Nat × Nat),A.heap[k]?=some (Obj.cells cs T fr)→B.heap[k]?=A.heap[k]?:=fun k cs T fr hk=>hg.block k (Array.getElem?_eq_some_iff.1 hk).1 (fun e=>by
      obtain ⟨_,o,ho,hc⟩:=hr k e.symm
      rw [hk] at ho
      cases ho
      cases hc)
     obtain ⟨cur,q1,_⟩:=hl.2.2.2
     refine ⟨⟨hl.1,Nat.le_trans hl.2.1 hg.size,(hkk _ _ _ _ hl.2.2.1).trans hl.2.2.1,hl.2.2.2.same (hkk _ _ _ _ q1)⟩,n,l,L,U,lv,bo,hs.keep hg.os hg.tape hg.output hg.size (fun k hk=>hg.block k (Nat.lt_of_lt_of_le hk hs.out.size) (fun e=>?_)) hkk⟩
     have:=(hr k e.symm).1;have:=LB.out;have:=Z5.out;omega)
    (fun c s A B row hs hg hr=>hs)
    (fun s A B h e=>by rw [← e];exact h) (fun _ _ _=>trivial) (fun _ _ _ _ _=>trivial) ⟨⟨Nat.zero_le _,Nat.le_refl _,X5.out,SR5.out⟩,n0,l0,[],_,_,bo,I5.out⟩
    (fun x a' W=>∃ (Bx:Nat) (st:StepM),W.heap[Bx]?=some (.cells (stC st).toArray 96 (0,0))∧pre[h - 1 - x]?=some st∧a'={ tmps:=((T0.setIfInBounds 30 (.int .i64 ((h - 1 - x:Nat):Int))).setIfInBounds 31 (.agg (stC st).toArray)).setIfInBounds 11 (.pointer (some ⟨Bx,0,none⟩)),defers:=[] })
    (fun x a' s A B row hs hg hr=>by
     obtain ⟨Bx,st,h1,h2,h3⟩:=hs
     exact ⟨Bx,st,(hg.block Bx (Array.getElem?_eq_some_iff.1 h1).1 (fun e=>by
      obtain ⟨_,o,ho,hc⟩:=hr Bx e.symm
      rw [h1] at ho
      cases ho
      cases hc)).trans h1,h2,h3⟩) ?assign ?body ?done ?stop
   case assign =>
    rintro l' ys x W K ⟨hl,n,l,L,U,lv,bo,hi⟩ hlt rfl hK
    obtain ⟨st',hst⟩:∃ st',pre[h - 1 - ys.length]?=some st':=⟨_,List.getElem?_eq_getElem (by rw [HLEN.out];omega)⟩
    have HK2:=Lib.hid hK
    clear hK
    subst hT0
    dsimp only [encB]
    rw [hst]
    simp only [Option.map_some,Option.getD_some]
    gi_wp2_with (refine inX_store_row rfl 96 (.tmp 11) (.tmp 31) rfl W.heap.size (stC st').toArray rfl rfl 96 _ (heap_alloc_new _ _) (by kernel_rfl) rfl (by simp [stC,Value.oneCell']) ?_)
    obtain ⟨W2,hW2⟩:∃ W2,W2=(W.alloc (.cells #[.int .i64 0,.bool false,.slice none 0 0,.slice none 0 0,.slice none 0 0,.int .i64 0] 96)).setRow W.heap.size (stC st').toArray:=⟨_,rfl⟩
    have BW:Below W.heap.size W W2:=by rw [hW2];exact below_setRow (alloc_bel rfl) (Nat.le_refl _) _
    have GW:W2.heap[W.heap.size]?=some (.cells (stC st').toArray 96 (0,0)):=by rw [hW2];exact setRow_heap _ _ _ _ _ _ (heap_alloc_new _ _)
    rw [← hW2]
    have hlb:=LB.out
    have hz5:=Z5.out
    refine HK2.out _ _ ⟨BW.size,fun k o _ ho _=>(BW.block k (Array.getElem?_eq_some_iff.1 ho).1).trans ho⟩ ⟨BW.block Bs (by omega),BW.block b (by have:=hi.out.size;omega)⟩ ⟨⟨hl.1,Nat.le_trans hl.2.1 BW.size,row_stays hl.2.2.1 BW,hl.2.2.2.same (BW.block b (by have:=hi.out.size;omega))⟩,n,l,L,U,lv,bo,hi.below BW⟩ ⟨W.heap.size,st',GW,hst,rfl⟩
   case body =>
    rintro l' ys x a' W hlW ⟨rr,hrr⟩ ⟨hl,n,l,L,U,lv,bo,hi⟩ ⟨Bx,st,hBx,hst,rfl⟩ hlt rfl
    subst hT0
    simp only [List.setIfInBounds_toArray,List.set_cons_zero,List.set_cons_succ]
    obtain ⟨j,hj⟩:∃ j,j=ys.length:=⟨_,rfl⟩
    rw [← hj] at hi hst hlt hl
    obtain ⟨st',parts,hst',hlk⟩:=HLK.out j hlt
    rw [hst] at hst'
    cases hst'
    obtain ⟨px,hpx,hpE⟩:=hlk.at_
    have hok:=(HRD.out _ _ hlk.rd_).1.1
    have hpl:parts.length≤16:=by
     unfold okNode at hok
     rw [if_neg (by simp [hlk.leaf])] at hok
     have:=hok.2.2.1.2.1
     rw [hlk.ks,List.length_map] at this
     exact this
    have hrst:=hi.rest (h - 1 - j) st hst (by omega)
    have hj0:j=0∧h=1:=by have:=HH1.out;omega
    have hh9:=hj0.2
    have hj0:=hj0.1
    have hsm:=hi.same
    rw [HSM.out] at hsm
    obtain ⟨e1,e2,e3⟩:=hsm.1 hj0
    rw [← HU0.out] at e3
    have hft:=hi.fit.resolve_right (fun h=>h hj0)
    have HE123:Hid (n=n0∧L=[]∧U=U0):=Lib.hid ⟨e1,e2,e3⟩
    have HWI:=Lib.hid (within_by gc gv g gen p B0 j U Uv Vv V lv L st n l rd rd parts El' bo b1 HRD.out (fun a n h=>h) hlk.ds hlk.ks hlk.all (List.getElem?_eq_some_iff.1 hpx).1 hpl (by rw [e1,hj0];exact HT.out) (by rw [e1];exact HN0.out) (by
     right
     have h9:=HLST.out (h - 1 - j) st hst (by omega)
     rw [hlk.ds,List.length_map] at h9
     exact h9) HV.out HOV.out hft.1 hft.2 (by rw [e1];exact HFW.out hh9) qs (by rw [e1];exact HQS.out hh9) (by rw [e3];exact HTK.out hh9) (by rw [e2];exact Nat.zero_le _) W hi.chg hi.lay hi.view hi.disk hrst hi.own (HBLK.out st (List.mem_of_getElem? hst)) hi.b1W hi.B0W)
    clear hsm e1 e2 e3 hft hh9
    have hXn:∀ (k:Nat) (cs:Array Value) (T:TypeId) (fr:Nat × Nat),W.heap[k]?=some (Obj.cells cs T fr)→T≠38→T≠3→¬ (st.l.KA.map (·.block)=some k∨st.l.DA.map (·.block)=some k):=fun k cs T fr hk h1 h2 hx=>by
     rcases hx with hx | hx
     ·exact row_blk hrst.2.1 hk h1 hx
     ·exact row_blk hrst.2.2 hk h2 hx
    have HI:=Lib.hid hi
    have HXN:=Lib.hid hXn
    have HST:=Lib.hid hst
    have HLT:=Lib.hid hlt
    have HLK2:=Lib.hid hlk
    have HPX:=Lib.hid hpx
    have HPE:=Lib.hid hpE
    have HPL:=Lib.hid hpl
    have HJ:=Lib.hid hj
    have HRS:=Lib.hid hrst
    have HLL:=Lib.hid hl
    have c3:=nd_cell hi.c3 0 (.pointer (some ⟨gc,0,none⟩)) rfl
    have HBX:=Lib.hid hBx
    clear hi hXn hst hlt hlk hpx hpE hpl hj hrst hok hl hBx hrr hlW
    gi_wp2_with (first
     | (refine inX_load_row rfl 96 (.tmp 11) rfl Bx rfl 96 _ (0,0) _ HBX.out Tryz.underlying96 rfl (by kernel_rfl) ?_)
     | (refine inX_load_row rfl 86 (.tmp 5) rfl b5 rfl 86 _ (0,0) _ HI.out.box Tryz.underlying86 rfl (by kernel_rfl) ?_)
     | (refine ⟨trivial,?_⟩;gi_at_call 61;refine (CallsIn.inRound l' (callsIn_wide.2 HWI.out)).mono ?_;rintro e W1 ⟨n',l2,Lx,lv',rfl,hwi,hws,hwq⟩;have WI:=Lib.hid hwi;have HWS:=Lib.hid hws;have HWQ:=Lib.hid hwq;clear hws hwq;have BX1:=Lib.hid (hwi.out.typed HI.out.chg.chg HI.out.box (by decide) (by decide) (HXN.out _ _ _ _ HI.out.box (by decide) (by decide)));clear hwi)
     | (refine inX_store_row rfl 86 (.tmp 5) (.tmp 37) rfl b5 #[.bool n'.leaf,.slice l2.EA n'.es.length l2.ec,.slice l2.KA n'.ks.length l2.kc,.slice l2.DA n'.ds.length l2.dc] rfl rfl 86 _ BX1.out (by kernel_rfl) rfl (by simp [Value.oneCell']) ?_))
    obtain ⟨W2,hW2⟩:∃ W2,W2=W1.setRow b5 #[.bool n'.leaf,.slice l2.EA n'.es.length l2.ec,.slice l2.KA n'.ks.length l2.kc,.slice l2.DA n'.ds.length l2.dc]:=⟨_,rfl⟩
    have KN:KeptNot 86 W1 W2:=by rw [hW2];exact KeptNot.of_setRow BX1.out _
    have BX2:W2.heap[b5]?=some (.cells #[.bool n'.leaf,.slice l2.EA n'.es.length l2.ec,.slice l2.KA n'.ks.length l2.kc,.slice l2.DA n'.ds.length l2.dc] 86 (0,0)):=by rw [hW2];exact setRow_heap _ _ _ _ _ _ BX1.out
    have OT2:∀ k,k≠b5→W2.heap[k]?=W1.heap[k]?:=fun k hk=>by rw [hW2];exact setRow_other W1 b5 k _ hk
    have SZ2:W2.heap.size=W1.heap.size∧W2.os=W1.os∧W2.tape=W1.tape∧W2.output=W1.output:=by rw [hW2];exact ⟨by simp,rfl,rfl,rfl⟩
    rw [← hW2]
    clear hW2
    have wi:=WI.out
    have hi:=HI.out
    have hb5:w.heap.size≤b5:=by have:=HBS.out.2.1;omega
    have hS1:W.heap.size≤W2.heap.size:=by rw [SZ2.1];exact wi.out.size
    have hst:=HST.out
    have hlt:=HLT.out
    have hlk:=HLK2.out
    -- what W had stays,but the change's own and the step's rows
    have K1:∀ (k:Nat) (cs:Array Value) (T:TypeId) (fr:Nat × Nat),W.heap[k]?=some (Obj.cells cs T fr)→T≠151→T≠114→T≠38→T≠3→T≠86→W2.heap[k]?=some (Obj.cells cs T fr):=fun k cs T fr hk h1 h2 h3 h4 h5 =>
     KN.heap (wi.out.typed hi.chg.chg hk h1 h2 (HXN.out _ _ _ _ hk h3 h4)) h5
    have KO:∀ (k:Nat) (o:Obj),W.heap[k]?=some o→o.isCells=false→W2.heap[k]?=some o:=fun k o hk hc=>by
     have h1:W1.heap[k]?=some o:=(wi.out.block k (Array.getElem?_eq_some_iff.1 hk).1 (fun e=>by
      have h2:=hi.chg.chg
      unfold ChgAt at h2
      rw [e,h2] at hk
      cases hk
      cases hc) (fun hx=>by
      have hbl:=own_blk HRS.out
      rcases hx with hx | hx
      ·rcases HRS.out.2.1.2 with ⟨h0,_⟩ | ⟨gg,cap,cur,hv,_,hg,_⟩
       ·injection h0 with h1 _ _
        rw [h1] at hx
        cases hx
       ·injection hv with h1 _ _
        rw [h1] at hx
        obtain rfl:gg=k:=by simpa using hx
        rw [hk] at hg
        cases hg
        cases hc
      ·rcases HRS.out.2.2.2 with ⟨h0,_⟩ | ⟨gg,cap,cur,hv,_,hg,_⟩
       ·injection h0 with h1 _ _
        rw [h1] at hx
        cases hx
       ·injection hv with h1 _ _
        rw [h1] at hx
        obtain rfl:gg=k:=by simpa using hx
        rw [hk] at hg
        cases hg
        cases hc) (fun _ cs fr e=>by
      rw [hk] at e
      cases e
      cases hc)).trans hk
     refine (OT2 k (fun e=>?_)).trans h1
     rw [e,BX1.out] at h1
     cases h1
     cases hc
    have hsep:∀ (i:Nat) (x:StepM),pre[i]?=some x→i<h - 1 - j→SepL x.l st.l:=fun i x hx hlt2=>by
     have h1:=List.pairwise_iff_getElem.1 HSEP.out i (h - 1 - j) (List.getElem?_eq_some_iff.1 hx).1 (List.getElem?_eq_some_iff.1 hst).1 hlt2
     rw [(List.getElem?_eq_some_iff.1 hx).2,(List.getElem?_eq_some_iff.1 hst).2] at h1
     exact h1
    have hp5:p≤512:=by have:=HOV.out.2.1;omega
    have hlb:=LB.out
    have hz5:=Z5.out
    have hll:=HLL.out
    have eL:(ys ++ [ys.length]).length=j+1:=by rw [List.length_append,← HJ.out];rfl
    have kB:=K1 _ _ _ _ hll.2.2.1 (by decide) (by decide) (by decide) (by decide) (by decide)
    obtain ⟨cur,q1,q2⟩:=hll.2.2.2
    have kR:=K1 _ _ _ _ q1 (by decide) (by decide) (by decide) (by decide) (by decide)
    have hXX:∀ k,(st.l.KA.map (·.block)=some k∨st.l.DA.map (·.block)=some k)→WayX pre k:=fun k hk=>⟨st,List.mem_of_getElem? hst,hk⟩
    have s2:OutS gc B0 (WayX pre) w W1:=hi.out.trans (wi.out.wider hXX)
    refine ⟨⟨hS1,fun k o _ ho hc=>KO k o ho hc⟩,⟨kB.trans hll.2.2.1.symm,kR.trans q1.symm⟩,⟨by rw [eL];omega,Nat.le_trans hll.2.1 hS1,kB,⟨cur,kR,q2⟩⟩,n',l2,L ++ Lx,marks U qs,lv',b1,?_⟩
    rw [eL]
    refine
     { own:=own_kept KN wi.own (by decide) (by decide) (by decide)
       box:=BX2
       c3:=K1 _ _ _ _ hi.c3 (by decide) (by decide) (by decide) (by decide) (by decide)
       c6:=K1 _ _ _ _ hi.c6 (by decide) (by decide) (by decide) (by decide) (by decide)
       c7:=K1 _ _ _ _ hi.c7 (by decide) (by decide) (by decide) (by decide) (by decide)
       chg:=KN.chg wi.chg (by decide) (by decide)
       fit:=.inr (Nat.succ_ne_zero j)
       lay:=fun x hx=>own_kept KN (wi.lay x hx) (by decide) (by decide) (by decide)
       same:=by
        rw [HSM.out]
        obtain ⟨e1,e2,e3⟩:=HE123.out
        have hws:=HWS.out
        rw [e1,e3] at hws
        have hj9:h - 1 - j=0:=by have:=HH1.out;omega
        rw [hj9] at hst
        rw [e2,e3,List.nil_append,← HU0.out]
        exact ⟨fun h=>by omega,fun _=>⟨HWQ.out,rfl,st,hst,hws⟩⟩
       out:=⟨SZ2.2.1.trans s2.os,SZ2.2.2.1.trans s2.tape,SZ2.2.2.2.trans s2.output,by rw [SZ2.1];exact s2.size,fun k hk hg hX hT=>(OT2 k (by omega)).trans (s2.block k hk hg hX hT)⟩
       view:=K1 _ _ _ _ hi.view (by decide) (by decide) (by decide) (by decide) (by decide)
       disk:=hi.disk.keepTy hS1 fun b cs T fr hb hT=>(K1 b cs T fr hb (by rcases hT with rfl | rfl | rfl <;> decide) (by rcases hT with rfl | rfl | rfl <;> decide) (by rcases hT with rfl | rfl | rfl <;> decide) (by rcases hT with rfl | rfl | rfl <;> decide) (by rcases hT with rfl | rfl | rfl <;> decide)).trans hb.symm
       rest:=fun i x hx hi2=>?_
       b1W:=Nat.le_trans hi.b1W hS1
       B0W:=Nat.le_trans hi.B0W hS1 }
    ·obtain ⟨sb,⟨se,sk,sd⟩,_,tk,td⟩:=hsep i x hx (by omega)
     refine own_kept KN (wi.out.own hi.chg.chg (hi.rest i x hx (by omega)) (fun a ha hX=>?_)) (by decide) (by decide) (by decide)
     have hle:∀ z,(st.l.KA=some z∨st.l.DA=some z)→sb≤z.block:=fun z hz=>hz.elim (tk z) (td z)
     have hz:∃ z,(st.l.KA=some z∨st.l.DA=some z)∧z.block=a.block:=by
      rcases hX with hX | hX
      ·obtain ⟨z,hz,hzb⟩:=Option.map_eq_some_iff.1 hX
       exact ⟨z,.inl hz,hzb⟩
      ·obtain ⟨z,hz,hzb⟩:=Option.map_eq_some_iff.1 hX
       exact ⟨z,.inr hz,hzb⟩
     obtain ⟨z,hz1,hz2⟩:=hz
     have h1:=hle z hz1
     rcases ha with ha | ha | ha
     ·have h2:=se a ha
      omega
     ·have h2:=sk a ha
      omega
     ·have h2:=sd a ha
      omega
   case done =>
    rintro D xs W hD rfl ⟨hl,n,l,L,U,lv,bo,hi⟩ hK
    rw [List.length_range] at hi
    subst hT0
    have HI:=Lib.hid hi
    have HKD:=Lib.hid hK
    have HDD:=Lib.hid hD
    have HS0:=Lib.hid hl.2.1
    have c3:∀ y:SubX (fun k=>k=gc∨∃ cs fr,W.heap[k]?=some (.cells cs 151 fr)) W,y.at_.cell? ⟨b3,0,none⟩=some (.pointer (some ⟨gc,0,none⟩)):=fun y=>nd_cell (y.ok_.heap HI.out.c3 (fun hx=>by
     rcases hx with hx | ⟨cs,fr,hx⟩
     ·exact row_ne_typed HI.out.chg.chg hx HI.out.c3 (by decide)
     ·rw [HI.out.c3] at hx
      cases hx)) 0 _ rfl
    have c5:∀ y:SubX (fun k=>k=gc∨∃ cs fr,W.heap[k]?=some (.cells cs 151 fr)) W,y.at_.heap[b5]?=some (.cells #[.bool n.leaf,.slice l.EA n.es.length l.ec,.slice l.KA n.ks.length l.kc,.slice l.DA n.ds.length l.dc] 86 (0,0)):=fun y=>y.ok_.heap HI.out.box (fun hx=>by
     rcases hx with hx | ⟨cs,fr,hx⟩
     ·exact row_ne_typed HI.out.chg.chg hx HI.out.box (by decide)
     ·rw [HI.out.box] at hx
      cases hx)
    have hsm:=HI.out.same
    rw [HSM.out,← HU0.out] at hsm
    have hcn:=HCL.out n L U hsm
    have HSP:=Lib.hid (fun W' (hW':Below W.heap.size W W')=>split_any n.size n l (Nat.le_refl _) hcn.1 (by have:=hcn.2;omega) W' (HI.out.own.below hW').at)
    have HTP:=Lib.hid (fun W' (hW':Below W.heap.size W W') A c ps W1 h1 h2 h3 h4=>HTO.out W' W1 n l L lv U A c ps (HI.out.out.trans (OutS.of_below hW')) (HI.out.view.below hW') (HI.out.chg.below hW') (fun x hx=>(HI.out.lay x hx).below hW') (Nat.le_trans HI.out.B0W hW'.size) hsm h1 h2 h3 h4)
    clear hsm hcn
    clear hi hK hD hl
    go_upto_region 12 with fail
    refine region_waysX 8 (fun k=>k=gc∨∃ cs fr,W.heap[k]?=some (.cells cs 151 fr)) (.one [0,1,3,4] 2 (.one [] 5 (.done [6,7]))) (by kernel_rfl) (by kernel_rfl) ?_
    rintro wd hbd
    have BD:=Lib.hid hbd
    clear hbd
    rw [wpWaysT_one]
    try simp only [List.map_cons,List.map_nil,opAt,List.getElem?_toArray,List.getElem?_cons_zero,List.getElem?_cons_succ,Option.getD_some]
    repeat (first
     | (go_big_quiet_want;refine quietX_load_row 86 (.tmp 5) rfl b5 rfl 86 _ (0,0) _ c5 Tryz.underlying86 rfl (by kernel_rfl) ?_;simp only [Act.put,List.setIfInBounds_toArray,List.set_cons_zero,List.set_cons_succ];go_big_quiet_on)
     | go_big_quiet_step (fail))
    clear c3 c5
    refine wpQuiet_nil ?_
    go_wp2_with (go_at_call 62;refine (HSP.out _ BD.out).mono ?_;rintro e x1 ⟨As,cs1,ps,rfl,hr1,ho1,hsp1,hb1⟩;have R1:=Lib.hid hr1;have O1:=Lib.hid ho1;have SP1:=Lib.hid hsp1;have B1:=Lib.hid hb1;clear hr1 ho1 hsp1 hb1)
    have BW1:Hid (Below W.heap.size W x1):=Lib.hid (BD.out.trans (B1.out.mono BD.out.size))
    have OX1:Hid (OuterX (fun k=>k=gc∨∃ cs fr,W.heap[k]?=some (.cells cs 151 fr)) W x1):=Lib.hid (outerX_of_below BW1.out)
    refine ⟨⟨⟨_,OX1.out⟩,rfl⟩,?_⟩
    try simp only [Act.put,List.setIfInBounds_toArray,List.set_cons_zero,List.set_cons_succ]
    rw [wpWaysT_one]
    try simp only [List.map_cons,List.map_nil,opAt,List.getElem?_toArray,List.getElem?_cons_zero,List.getElem?_cons_succ,Option.getD_some]
    refine wpQuiet_nil ?_
    go_wp2_with (go_at_call 30;refine (HTP.out wd BD.out As cs1 ps x1 B1.out SP1.out R1.out O1.out).mono ?_;rintro e x2 ⟨ra,rh,rfl,ho2,hr2⟩;have T2:=Lib.hid ho2;have TR:=Lib.hid hr2;clear ho2 hr2)
    have OX2:Hid (OuterX (fun k=>k=gc∨∃ cs fr,W.heap[k]?=some (.cells cs 151 fr)) W x2):=Lib.hid ⟨T2.out.os.trans BW1.out.os,T2.out.tape.trans BW1.out.tape,T2.out.output.trans BW1.out.output,Nat.le_trans BW1.out.size T2.out.size,fun k hk hX=>(T2.out.block k (Nat.lt_of_lt_of_le hk BW1.out.size) (fun e=>hX (.inl e)) (fun h=>h) (fun _ cs fr e=>hX (.inr ⟨cs,fr,by rw [← BW1.out.block k hk];exact e⟩))).trans (BW1.out.block k hk)⟩
    refine ⟨⟨⟨_,OX2.out⟩,rfl⟩,?_⟩
    try simp only [Act.put,List.setIfInBounds_toArray,List.set_cons_zero,List.set_cons_succ]
    rw [wpWaysT_done]
    simp only [List.map_cons,List.map_nil,List.drop_succ_cons,List.drop_zero,opAt,List.getElem?_toArray,List.getElem?_cons_zero,List.getElem?_cons_succ,Option.getD_some]
    repeat (first
     | go_big_quiet_step (fail))
    refine wpQuiet_nil ?_
    have S2:Hid (OutS gc B0 (fun _=>False) W x2):=Lib.hid ((OutS.of_below BW1.out).trans T2.out)
    have C6:Hid (x2.heap[b6]?=some (.cells #[.int .i64 0,.int .i64 0] 43 (0,0))):=Lib.hid (S2.out.typed HI.out.chg.chg HI.out.c6 (by decide) (by decide) (fun h=>h))
    have C7:Hid (x2.heap[b7]?=some (.cells #[.int .i64 0] 44 (0,0))):=Lib.hid (S2.out.typed HI.out.chg.chg HI.out.c7 (by decide) (by decide) (fun h=>h))
    have hb67:b7≠b6:=by have:=HBS.out;omega
    have KR:Hid (KeptNot 43 x2 (x2.setRow b6 #[.int .i64 ra,.int .i64 rh])):=Lib.hid (KeptNot.of_setRow C6.out _)
    have k7:(x2.setRow b6 #[.int .i64 ra,.int .i64 rh]).cell? ⟨b7,0,none⟩=some (.int .i64 0):=nd_cell (KR.out.heap C7.out (by decide)) 0 _ rfl
    have f7:(x2.setRow b6 #[.int .i64 ra,.int .i64 rh]).frozen? ⟨b7,0,none⟩=false:=by simp [World.frozen?,KR.out.heap C7.out (by decide)]
    go_wp2_with (refine wpList_store_row rfl 43 (.tmp 6) (.tmp 49) rfl b6 #[.int .i64 ra,.int .i64 rh] rfl rfl 43 _ C6.out (by kernel_rfl) rfl (by simp [Value.oneCell']) ?_)
    obtain ⟨u1,hu1⟩:∃ u1,u1=x2.setRow b6 #[.int .i64 ra,.int .i64 rh]:=⟨_,rfl⟩
    obtain ⟨u2,hu2⟩:∃ u2,u2=u1.setCell ⟨b7,0,none⟩ (.int .i64 er):=⟨_,rfl⟩
    have g6:u1.heap[b6]?=some (.cells #[.int .i64 ra,.int .i64 rh] 43 (0,0)):=by rw [hu1];exact setRow_heap _ _ _ _ _ _ C6.out
    have g7:u1.heap[b7]?=some (.cells #[.int .i64 0] 44 (0,0)):=by rw [hu1];exact KR.out.heap C7.out (by decide)
    have o1:∀ k,k≠b6→u1.heap[k]?=x2.heap[k]?:=fun k hk=>by rw [hu1];exact setRow_other x2 b6 k _ hk
    have o2:∀ k,k≠b7→u2.heap[k]?=u1.heap[k]?:=fun k hk=>by rw [hu2];exact Below.heap_setCell u1 ⟨b7,0,none⟩ _ k hk
    have g62:u2.heap[b6]?=some (.cells #[.int .i64 ra,.int .i64 rh] 43 (0,0)):=(o2 b6 hb67.symm).trans g6
    have g72:u2.heap[b7]?=some (.cells #[.int .i64 er] 44 (0,0)):=by
     rw [hu2]
     exact Boxed.set (v:=.int .i64 0) _ g7
    have sz2:u2.heap.size=x2.heap.size∧u2.os=x2.os∧u2.tape=x2.tape∧u2.output=x2.output:=by rw [hu2,hu1];exact ⟨by simp,rfl,rfl,rfl⟩
    have hkx:x2.heap[D]?=some (.deferred (some [])):=(S2.out.block D (Array.getElem?_eq_some_iff.1 HKD.out).1 (fun e=>by
     have h2:=HI.out.chg.chg
     unfold ChgAt at h2
     rw [← e,HKD.out] at h2
     cases h2) (fun h=>h) (fun _ cs fr e=>by rw [HKD.out] at e;cases e)).trans HKD.out
    have hD6:D≠b6:=fun e=>by rw [e,C6.out] at hkx;cases hkx
    have hD7:D≠b7:=fun e=>by rw [e,C7.out] at hkx;cases hkx
    have hkd:u2.heap[D]?=some (.deferred (some [])):=((o2 D hD7).trans (o1 D hD6)).trans hkx
    rw [← hu1,← hu2]
    clear hu1 hu2 k7 f7
    refine ⟨by simp,.inl ⟨_,_,rfl,run_takeDeferred hkd,?_⟩⟩
    have hpg:=grownBy_putObj' u2 D (.deferred none)
    have o3:∀ k,k<u2.heap.size→k≠D→(u2.putObj D (.deferred none)).heap[k]?=u2.heap[k]?:=fun k hk hne=>hpg.block k hk (fun e=>hne (by cases e;rfl))
    have r6:(u2.putObj D (.deferred none)).heap[b6]?=some (.cells #[.int .i64 ra,.int .i64 rh] 43 (0,0)):=(o3 b6 (Array.getElem?_eq_some_iff.1 g62).1 hD6.symm).trans g62
    have r7:(u2.putObj D (.deferred none)).heap[b7]?=some (.cells #[.int .i64 er] 44 (0,0)):=(o3 b7 (Array.getElem?_eq_some_iff.1 g72).1 hD7.symm).trans g72
    have KA:∀ (k:Nat) (cs:Array Value) (T:TypeId) (fr:Nat × Nat),x2.heap[k]?=some (Obj.cells cs T fr)→T≠43→T≠44→(u2.putObj D (.deferred none)).heap[k]?=x2.heap[k]?:=fun k cs T fr hk h1 h2=>by
     have n6:k≠b6:=fun e=>by rw [e,C6.out] at hk;cases hk;exact h1 rfl
     have n7:k≠b7:=fun e=>by rw [e,C7.out] at hk;cases hk;exact h2 rfl
     have nD:k≠D:=fun e=>by rw [e,hkx] at hk;cases hk
     exact (o3 k (by rw [sz2.1];exact (Array.getElem?_eq_some_iff.1 hk).1) nD).trans ((o2 k n7).trans (o1 k n6))
    have hb6w:w.heap.size≤b6∧w.heap.size≤b7:=by have:=HBS.out;omega
    have hDw:w.heap.size≤D:=by have:=HDD.out;have:=Z5.out;have:=LB.out;omega
    have s9:OutS gc B0 (WayX pre) w x2:=HI.out.out.trans (S2.out.wider (fun _ h=>h.elim))
    refine ⟨.tuple #[.agg #[.int .i64 ra,.int .i64 rh],.int .i64 er],results_cellsC2 (p:=6) (q:=7) rfl _ _ ⟨b6,0,none⟩ ⟨b7,0,none⟩ _ _ rfl rfl (run_loadVar_row _ b6 43 43 _ (0,0) _ r6 Tryz.underlying43 rfl (by kernel_rfl)) (run_loadVar_oneC _ _ _ _ _ Tryz.underlying44 rfl (nd_cell r7 0 _ rfl)),ra,rh,rfl,?_,fun he=>?_⟩
    ·exact ⟨hpg.os.trans (sz2.2.1.trans s9.os),hpg.tape.trans (sz2.2.2.1.trans s9.tape),hpg.output.trans (sz2.2.2.2.trans s9.output),Nat.le_trans s9.size (by rw [← sz2.1];exact hpg.size),fun k hk hg hX hT=>(o3 k (by rw [sz2.1];exact Nat.lt_of_lt_of_le hk s9.size) (by omega)).trans (((o2 k (by omega)).trans (o1 k (by omega))).trans (s9.block k hk hg hX hT))⟩
    ·obtain ⟨L',U',lv',t1,t2,t3⟩:=TR.out he
     exact ⟨L',U',lv',⟨t1.chg.keep (KA _ _ _ _ t1.chg (by decide) (by decide)),row_keep t1.row (fun k cur _ hk=>KA _ _ _ _ hk (by decide) (by decide)),t1.B0⟩,fun x hx=>(t2 x hx).keep fun b cs T fr hb hT=>KA b cs T fr hb (by rcases hT with rfl | rfl | rfl <;> decide) (by rcases hT with rfl | rfl | rfl <;> decide),t3⟩
   case stop =>
    rintro D cd ys W _ _ hx _
    exact hx.elim
end Go.Proofs.YtgkddhncfaeidaaGreat
