/- Squeezed: the texts as they are written lie in wip/tpl. -/
import Derived.Test.YtgkddhncfaeidaaGreatPart34
import Derived.Test.YtgkddhncfaeidaaGreatPart33
import Derived.Test.YtgkddhncfaeidaaGreatPart32
import Derived.Test.YtgkddhncfaeidaaGreatPart09
import Derived.Test.YtgkddhncfaeidaaGreatPart20
import Derived.Test.YtgkddhncfaeidaaGreatPart25
import Derived.Test.YtgkddhncfaeidaaGreatPart28
set_option maxRecDepth 100000
set_option maxHeartbeats 16000000
set_option linter.unusedSimpArgs false
set_option linter.unusedVariables false
namespace Go.Proofs.YtgkddhncfaeidaaGreat
set_option linter.unnecessarySimpa false
open Go.RowKit Go.ChangeShapes Go.WideShapes Go.ChangeAt CrcM PageM
theorem meets_no (pre:List StepM) (A:Option Addr) (c h bw b1:Nat) (x:StepM) (e:EntD) (hlen:pre.length=h+1) (h4:h≤4) (hx:pre[h]?=some x) (w:World) (hrow:w.ownsRow bw 96 6 (.slice A (h+1) c) (h+1) (pre.flatMap stC)) (hnod:∀ y ∈ pre,OwnN w b1 y.s.n y.l)
 (hsz:∀ y ∈ pre,y.s.n.es.length≤1000∧y.s.n.ks.length≤1000∧y.s.at_≤1000) (hat:x.s.at_≤x.s.n.es.length) (hah:∀ a,0<x.s.at_→x.s.n.es[x.s.at_ - 1]?=some a→¬ (a.se=e.se∧e.st≤a.en)) (hlf:∀ a,x.s.n.es[x.s.at_]?=some a→¬ (a.key.se=e.se∧a.key.st≤e.en)) (hin:∀ (i:Nat) (y:StepM) (k:KeyD),i<h→pre[i]?=some y→y.s.n.ks[y.s.at_+1]?=some k→¬ (k.se=e.se∧k.st≤e.en)) :
 Calls Tryz.prog 40 #[.slice A (h+1) c,.agg (enC e).toArray] w fun e' w'=>e'=.returned (.bool false)∧Below w.heap.size w w':=by
 have HBH:=Lib.hid (fun W (hW:Below w.heap.size w W)=>behind_way (fun k=>¬ (k.se=e.se∧k.st≤e.en)) pre A c h bw b1 x hlen h4 hx W (row_below hrow hW) (fun y hy=>(hnod y hy).below hW) hsz hlf hin)
 obtain ⟨b,hAb,hbw,hnc,hcm,hsr⟩:=SRow.of_row hrow hlen.symm (by omega)
 subst hAb
 have HSR:=Lib.hid hsr
 have HX:=Lib.hid hx
 have HNX:=Lib.hid (hnod x (List.mem_of_getElem? hx))
 have HBL:Hid (b<w.heap.size):=Lib.hid (by
  obtain ⟨cur,q1,_⟩:=hsr
  exact (Array.getElem?_eq_some_iff.1 q1).1)
 have hsx:=hsz x (List.mem_of_getElem? hx)
 obtain ⟨⟨xa,xn,xr⟩,xl⟩:=x
 dsimp only at hsx hat hah HNX
 have HAH:=Lib.hid hah
 obtain ⟨ne,hne⟩:∃ ne,ne=xn.es.length:=⟨_,rfl⟩
 have HNE:=Lib.hid hne
 rw [← hne] at hsx hat
 obtain ⟨ese,est,een,ead,ele,ecn,eco,ecr⟩:=e
 dsimp only [enC] at HAH HBH ⊢
 obtain ⟨w1,hw1⟩:∃ w1,w1=w.alloc (.cells #[.int .i64 ese,.int .i64 est,.int .i64 een,.int .i64 ead,.int .i64 ele,.int .i64 ecn,.int .i64 eco,.int .u32 ecr] 40):=⟨_,rfl⟩
 have B1:=Lib.hid (alloc_bel hw1)
 have G1:Hid (w1.heap[w.heap.size]?=some (.cells #[.int .i64 ese,.int .i64 est,.int .i64 een,.int .i64 ead,.int .i64 ele,.int .i64 ecn,.int .i64 eco,.int .u32 ecr] 40 (0,0))):=Lib.hid (by rw [hw1];exact heap_alloc_new _ _)
 have HW1:=Lib.hid hw1
 have Z1:Hid (w1.heap.size=w.heap.size+1):=Lib.hid (by rw [hw1];simp)
 clear hw1 hah hrow hnod hsz hlf hin hx hsr hlen hne
 go_enter Tryz.func40,Tryz.ntmps40
 go_upto_region 1 with fail
 rw [← HW1.out]
 clear HW1
 have hq0:((((h+1:Nat):Int)) == 0)=false:=by simp;omega
 have hq1:((h:Int)+1 == 0)=false:=by simp;omega
 have hw1:wrap64 (((h+1:Nat):Int) - 1)=(h:Int):=by unfold wrap64;unfold maxLen at hcm;omega
 have hw3:wrap64 ((h:Int)+1 - 1)=(h:Int):=by unfold wrap64;omega
 have hh1:(h:Int)<((h+1:Nat):Int):=by omega
 have hh2:(h:Int)<(h:Int)+1:=by omega
 have HRG:Hid (w1.rangeAt b (h*6) (stC ⟨⟨xa,xn,xr⟩,xl⟩)):=Lib.hid ((HSR.out.same (B1.out.block b HBL.out)).range HX.out)
 go_upto_region 4 with (first
  | (refine wpList_load_mid rfl 96 (.tmp 16) rfl b (h*6) rfl (stC ⟨⟨xa,xn,xr⟩,xl⟩) _ HRG.out Tryz.underlying96 rfl (by kernel_rfl) ?_)
  | (refine wpList_store_row rfl 96 (.tmp 5) (.tmp 17) rfl w1.heap.size (stC ⟨⟨xa,xn,xr⟩,xl⟩).toArray rfl rfl 96 _ (heap_alloc_new _ _) (by kernel_rfl) rfl (by simp [stC,Value.oneCell']) ?_))
 obtain ⟨w4,hw4⟩:∃ w4,w4=(w1.alloc (.cells #[.int .i64 0,.bool false,.slice none 0 0,.slice none 0 0,.slice none 0 0,.int .i64 0] 96)).setRow w1.heap.size (stC ⟨⟨xa,xn,xr⟩,xl⟩).toArray:=⟨_,rfl⟩
 obtain ⟨b4,hb4⟩:∃ b4,b4=w1.heap.size:=⟨_,rfl⟩
 have B14:Hid (Below w1.heap.size w1 w4):=Lib.hid (by rw [hw4];exact below_setRow (alloc_bel rfl) (Nat.le_refl _) _)
 have K4:Hid (w4.heap[b4]?=some (.cells (stC ⟨⟨xa,xn,xr⟩,xl⟩).toArray 96 (0,0))):=Lib.hid (by rw [hw4,hb4];exact setRow_heap _ _ _ _ _ _ (heap_alloc_new _ _))
 rw [← hw4,← hb4]
 have HB4:=Lib.hid hb4
 clear hw4 hb4 hw1 hw3 hh1 hh2 hq0 hq1 HRG
 try simp only [Act.put,List.setIfInBounds_toArray,List.set_cons_zero,List.set_cons_succ]
 have B4:Hid (Below w.heap.size w w4):=Lib.hid (B1.out.trans (B14.out.mono B1.out.size))
 have G4:=Lib.hid (row_stays G1.out B14.out)
 have HN4:=Lib.hid (HNX.out.below B4.out)
 have c2:w4.cell? ⟨b4,2,none⟩=some (.slice xl.EA ne xl.ec):=by rw [HNE.out];exact nd_cell K4.out 2 _ rfl
 have c5:w4.cell? ⟨b4,5,none⟩=some (.int .i64 (xr:Int)):=nd_cell K4.out 5 _ rfl
 by_cases h0:0<xr
 ·have hd:decide ((xr:Int) > 0)=true:=by simp;omega
  obtain ⟨i0,hi0⟩:∃ i0,i0=xr - 1:=⟨_,rfl⟩
  have hwi:wrap64 ((xr:Int) - 1)=(i0:Int):=by unfold wrap64;omega
  have hlt:(i0:Int)<(ne:Int):=by omega
  obtain ⟨a,ha⟩:∃ a,xn.es[i0]?=some a:=⟨_,List.getElem?_eq_getElem (by rw [← HNE.out];omega)⟩
  have HA:Hid (¬ (a.se=ese∧est≤a.en)):=Lib.hid (HAH.out a h0 (by rw [← hi0];exact ha))
  obtain ⟨be,oe,hEA,hce⟩:=EnAt.of_row (HN4.out.1) (by intro e;rw [e] at ha;cases ha)
  have HRE:Hid (w4.rangeAt be (oe+i0*8) [.int .i64 a.se,.int .i64 a.st,.int .i64 a.en,.int .i64 a.ad,.int .i64 a.le,.int .i64 a.cn,.int .i64 a.co,.int .u32 a.cr]):=Lib.hid (by
   obtain ⟨e0,e1,e2,e3,e4,e5,e6,e7⟩:=hce i0 a ha
   intro j u hu
   match j,hu with
   | 0,hu=>cases hu;exact e0
   | 1,hu=>cases hu;exact e1
   | 2,hu=>cases hu;exact e2
   | 3,hu=>cases hu;exact e3
   | 4,hu=>cases hu;exact e4
   | 5,hu=>cases hu;exact e5
   | 6,hu=>cases hu;exact e6
   | 7,hu=>cases hu;exact e7
   | j+8,hu=>simp at hu)
  rw [hEA] at c2
  clear ha hce hEA hi0 hsx
  go_upto_region 6 with (first
   | (refine wpList_load_mid rfl 40 (.tmp 27) rfl be (oe+i0*8) rfl [.int .i64 a.se,.int .i64 a.st,.int .i64 a.en,.int .i64 a.ad,.int .i64 a.le,.int .i64 a.cn,.int .i64 a.co,.int .u32 a.cr] _ HRE.out Tryz.underlying40 rfl (by kernel_rfl) ?_)
   | (refine wpList_store_row rfl 40 (.tmp 6) (.tmp 28) rfl w4.heap.size #[.int .i64 a.se,.int .i64 a.st,.int .i64 a.en,.int .i64 a.ad,.int .i64 a.le,.int .i64 a.cn,.int .i64 a.co,.int .u32 a.cr] rfl rfl 40 _ (heap_alloc_new _ _) (by kernel_rfl) rfl (by simp [Value.oneCell']) ?_))
  obtain ⟨w5,hw5⟩:∃ w5,w5=(w4.alloc (.cells #[.int .i64 0,.int .i64 0,.int .i64 0,.int .i64 0,.int .i64 0,.int .i64 0,.int .i64 0,.int .u32 0] 40)).setRow w4.heap.size #[.int .i64 a.se,.int .i64 a.st,.int .i64 a.en,.int .i64 a.ad,.int .i64 a.le,.int .i64 a.cn,.int .i64 a.co,.int .u32 a.cr]:=⟨_,rfl⟩
  have B45:Hid (Below w4.heap.size w4 w5):=Lib.hid (by rw [hw5];exact below_setRow (alloc_bel rfl) (Nat.le_refl _) _)
  have K5:Hid (w5.heap[w4.heap.size]?=some (.cells #[.int .i64 a.se,.int .i64 a.st,.int .i64 a.en,.int .i64 a.ad,.int .i64 a.le,.int .i64 a.cn,.int .i64 a.co,.int .u32 a.cr] 40 (0,0))):=Lib.hid (by rw [hw5];exact setRow_heap _ _ _ _ _ _ (heap_alloc_new _ _))
  rw [← hw5]
  clear hw5 hd hwi hlt c2 c5
  try simp only [Act.put,List.setIfInBounds_toArray,List.set_cons_zero,List.set_cons_succ]
  obtain ⟨b6,hb6⟩:∃ b6,b6=w4.heap.size:=⟨_,rfl⟩
  rw [← hb6] at K5 ⊢
  clear hb6
  have B5:Hid (Below w.heap.size w w5):=Lib.hid (B4.out.trans (B45.out.mono B4.out.size))
  have G5:=Lib.hid (row_stays G4.out B45.out)
  have a0:=nd_cell K5.out 0 (.int .i64 a.se) rfl
  have a2:=nd_cell K5.out 2 (.int .i64 a.en) rfl
  have g0:=nd_cell G5.out 0 (.int .i64 ese) rfl
  have g1:=nd_cell G5.out 1 (.int .i64 est) rfl
  by_cases hse:a.se=ese
  ·have q1:(a.se == ese)=true:=by simp [hse]
   have q2:decide (a.en ≥ est)=false:=by have:=HA.out;simp;omega
   clear hse
   go_upto_region 9 with (first
    | (go_at_call 63;refine (HBH.out _ B5.out).mono ?_;rintro e w6 ⟨hbr,hb⟩;obtain ⟨k,ok,rfl,hk⟩:=hbr;have HK:=Lib.hid hk;have B6:=Lib.hid (B5.out.trans (hb.mono B5.out.size));have G6:=Lib.hid (row_stays G5.out hb);clear hk hb)
    | (refine wpList_store_row rfl 38 (.tmp 7) (.tmp 47) rfl w6.heap.size #[.int .i64 k.se,.int .i64 k.st] rfl rfl 38 _ (heap_alloc_new _ _) (by kernel_rfl) rfl (by simp [Value.oneCell']) ?_))
   obtain ⟨w7,hw7⟩:∃ w7,w7=(w6.alloc (.cells #[.int .i64 0,.int .i64 0] 38)).setRow w6.heap.size #[.int .i64 k.se,.int .i64 k.st]:=⟨_,rfl⟩
   have B67:Hid (Below w6.heap.size w6 w7):=Lib.hid (by rw [hw7];exact below_setRow (alloc_bel rfl) (Nat.le_refl _) _)
   have K7:Hid (w7.heap[w6.heap.size]?=some (.cells #[.int .i64 k.se,.int .i64 k.st] 38 (0,0))):=Lib.hid (by rw [hw7];exact setRow_heap _ _ _ _ _ _ (heap_alloc_new _ _))
   rw [← hw7]
   clear hw7
   try simp only [Act.put,List.setIfInBounds_toArray,List.set_cons_zero,List.set_cons_succ]
   have B7:Hid (Below w.heap.size w w7):=Lib.hid (B6.out.trans (B67.out.mono B6.out.size))
   have G7:=Lib.hid (row_stays G6.out B67.out)
   have k0:=nd_cell K7.out 0 (.int .i64 k.se) rfl
   have k1:=nd_cell K7.out 1 (.int .i64 k.st) rfl
   have j0:=nd_cell G7.out 0 (.int .i64 ese) rfl
   have j2:=nd_cell G7.out 2 (.int .i64 een) rfl
   cases ok
   ·go_wp2_with fail
    go_ret
    exact ⟨rfl,B7.out⟩
   ·have HKK:=Lib.hid (HK.out rfl)
    by_cases hke:k.se=ese
    ·have q1:(k.se == ese)=true:=by simp [hke]
     have q2:decide (k.st≤een)=false:=by have:=HKK.out;simp;omega
     clear hke
     go_wp2_with fail
     go_ret
     exact ⟨rfl,B7.out⟩
    ·have q1:(k.se == ese)=false:=by simp [hke]
     clear hke
     go_wp2_with fail
     go_ret
     exact ⟨rfl,B7.out⟩
  ·have q1:(a.se == ese)=false:=by simp [hse]
   clear hse
   go_upto_region 9 with (first
    | (go_at_call 63;refine (HBH.out _ B5.out).mono ?_;rintro e w6 ⟨hbr,hb⟩;obtain ⟨k,ok,rfl,hk⟩:=hbr;have HK:=Lib.hid hk;have B6:=Lib.hid (B5.out.trans (hb.mono B5.out.size));have G6:=Lib.hid (row_stays G5.out hb);clear hk hb)
    | (refine wpList_store_row rfl 38 (.tmp 7) (.tmp 47) rfl w6.heap.size #[.int .i64 k.se,.int .i64 k.st] rfl rfl 38 _ (heap_alloc_new _ _) (by kernel_rfl) rfl (by simp [Value.oneCell']) ?_))
   obtain ⟨w7,hw7⟩:∃ w7,w7=(w6.alloc (.cells #[.int .i64 0,.int .i64 0] 38)).setRow w6.heap.size #[.int .i64 k.se,.int .i64 k.st]:=⟨_,rfl⟩
   have B67:Hid (Below w6.heap.size w6 w7):=Lib.hid (by rw [hw7];exact below_setRow (alloc_bel rfl) (Nat.le_refl _) _)
   have K7:Hid (w7.heap[w6.heap.size]?=some (.cells #[.int .i64 k.se,.int .i64 k.st] 38 (0,0))):=Lib.hid (by rw [hw7];exact setRow_heap _ _ _ _ _ _ (heap_alloc_new _ _))
   rw [← hw7]
   clear hw7
   try simp only [Act.put,List.setIfInBounds_toArray,List.set_cons_zero,List.set_cons_succ]
   have B7:Hid (Below w.heap.size w w7):=Lib.hid (B6.out.trans (B67.out.mono B6.out.size))
   have G7:=Lib.hid (row_stays G6.out B67.out)
   have k0:=nd_cell K7.out 0 (.int .i64 k.se) rfl
   have k1:=nd_cell K7.out 1 (.int .i64 k.st) rfl
   have j0:=nd_cell G7.out 0 (.int .i64 ese) rfl
   have j2:=nd_cell G7.out 2 (.int .i64 een) rfl
   cases ok
   ·go_wp2_with fail
    go_ret
    exact ⟨rfl,B7.out⟩
   ·have HKK:=Lib.hid (HK.out rfl)
    by_cases hke:k.se=ese
    ·have q1:(k.se == ese)=true:=by simp [hke]
     have q2:decide (k.st≤een)=false:=by have:=HKK.out;simp;omega
     clear hke
     go_wp2_with fail
     go_ret
     exact ⟨rfl,B7.out⟩
    ·have q1:(k.se == ese)=false:=by simp [hke]
     clear hke
     go_wp2_with fail
     go_ret
     exact ⟨rfl,B7.out⟩
 ·have hd:decide ((xr:Int) > 0)=false:=by simp;omega
  go_upto_region 9 with (first
   | (go_at_call 63;refine (HBH.out _ B4.out).mono ?_;rintro e w6 ⟨hbr,hb⟩;obtain ⟨k,ok,rfl,hk⟩:=hbr;have HK:=Lib.hid hk;have B6:=Lib.hid (B4.out.trans (hb.mono B4.out.size));have G6:=Lib.hid (row_stays G4.out hb);clear hk hb)
   | (refine wpList_store_row rfl 38 (.tmp 7) (.tmp 47) rfl w6.heap.size #[.int .i64 k.se,.int .i64 k.st] rfl rfl 38 _ (heap_alloc_new _ _) (by kernel_rfl) rfl (by simp [Value.oneCell']) ?_))
  obtain ⟨w7,hw7⟩:∃ w7,w7=(w6.alloc (.cells #[.int .i64 0,.int .i64 0] 38)).setRow w6.heap.size #[.int .i64 k.se,.int .i64 k.st]:=⟨_,rfl⟩
  have B67:Hid (Below w6.heap.size w6 w7):=Lib.hid (by rw [hw7];exact below_setRow (alloc_bel rfl) (Nat.le_refl _) _)
  have K7:Hid (w7.heap[w6.heap.size]?=some (.cells #[.int .i64 k.se,.int .i64 k.st] 38 (0,0))):=Lib.hid (by rw [hw7];exact setRow_heap _ _ _ _ _ _ (heap_alloc_new _ _))
  rw [← hw7]
  clear hw7
  try simp only [Act.put,List.setIfInBounds_toArray,List.set_cons_zero,List.set_cons_succ]
  have B7:Hid (Below w.heap.size w w7):=Lib.hid (B6.out.trans (B67.out.mono B6.out.size))
  have G7:=Lib.hid (row_stays G6.out B67.out)
  have k0:=nd_cell K7.out 0 (.int .i64 k.se) rfl
  have k1:=nd_cell K7.out 1 (.int .i64 k.st) rfl
  have j0:=nd_cell G7.out 0 (.int .i64 ese) rfl
  have j2:=nd_cell G7.out 2 (.int .i64 een) rfl
  cases ok
  ·go_wp2_with fail
   go_ret
   exact ⟨rfl,B7.out⟩
  ·have HKK:=Lib.hid (HK.out rfl)
   by_cases hke:k.se=ese
   ·have q1:(k.se == ese)=true:=by simp [hke]
    have q2:decide (k.st≤een)=false:=by have:=HKK.out;simp;omega
    clear hke
    go_wp2_with fail
    go_ret
    exact ⟨rfl,B7.out⟩
   ·have q1:(k.se == ese)=false:=by simp [hke]
    clear hke
    go_wp2_with fail
    go_ret
    exact ⟨rfl,B7.out⟩
end Go.Proofs.YtgkddhncfaeidaaGreat
namespace Go.Proofs.YtgkddhncfaeidaaGreat
open Go.RowKit CrcM PageM
theorem Tre.least_mem {rd:Nat→NodeD→Prop} {h:Nat} {n:NodeD} {es:List EntD} (ht:Tre rd h n es) (h1:1≤es.length):∃ e ∈ es,leastK n=e.key:=by
 obtain ⟨e,he,hk⟩:=ht.least h1
 exact ⟨e,List.mem_of_getElem? he,hk⟩
theorem Down.right {rd:Nat→NodeD→Prop} {k:KeyD}:∀ {h a:Nat} {n:NodeD} {es:List EntD} {ss:List StepD},Tre rd h n es→Down rd k h a n es ss→(∀ e ∈ es,lessB e.key k=true) →
 (∀ (i:Nat) (x:StepD),ss[i]?=some x→i<h→x.at_+1=x.n.ds.length∧x.n.ks.length=x.n.ds.length)∧∃ x Y,ss[h]?=some x∧x.at_=x.n.es.length∧es=Y ++ x.n.es
 | 0,a,n,es,ss,⟨h1,h2,h3,h4⟩,⟨r,hp,e⟩,hl=>by
   refine ⟨fun i x _ hi=>by omega,⟨a,n,r⟩,[],by rw [e];rfl,?_,by rw [h2];rfl⟩
   unfold PlaceOf at hp
   rw [if_pos h1] at hp
   have h5:=hp.le
   rw [List.length_map] at h5
   by_cases h6:r=n.es.length
   ·exact h6
   ·exfalso
    have h7:r<n.es.length:=by omega
    have h8:=hp.hi r (n.es[r]).key (Nat.le_refl _) (by rw [List.getElem?_map,List.getElem?_eq_getElem h7];rfl)
    rw [hl _ (by rw [← h2];exact List.getElem_mem h7)] at h8
    cases h8
 | h+1,a,n,es,ss,ht,⟨r,parts,x,ss',hp,e1,e2,e3,e4,hx,hd,e⟩,hl=>by
   have hxm:=List.mem_of_getElem? hx
   obtain ⟨r1,r2,r3⟩:=e3 x hxm
   have hlf:n.leaf=false:=ht.1
   have hsub:∀ y ∈ parts,∀ e ∈ y.2.2,e ∈ es:=fun y hy e he=>by rw [e4];exact List.mem_flatMap.2 ⟨y,hy,he⟩
   obtain ⟨q1,y,Y,q2,q3,q4⟩:=Down.right r2 hd (fun e he=>hl e (hsub x hxm e he))
   have hrl:r<parts.length:=(List.getElem?_eq_some_iff.1 hx).1
   have hlast:r+1=parts.length:=by
    by_cases h6:r+1=parts.length
    ·exact h6
    ·exfalso
     have h7:r+1<parts.length:=by omega
     unfold PlaceOf at hp
     rw [if_neg (by rw [hlf];decide)] at hp
     have hz:=e3 _ (List.getElem_mem h7)
     have h8:=hp.hi (r+1) (leastK (parts[r+1]).2.1) (by omega) (by rw [e2,List.getElem?_map,List.getElem?_eq_getElem h7];rfl)
     obtain ⟨e,he,hk⟩:=hz.2.1.least_mem hz.2.2
     have h9:=hl e (hsub _ (List.getElem_mem h7) e he)
     rw [hk,lessB_asymm h9] at h8
     cases h8
   refine ⟨fun i z hz hi=>?_,y,esOf (parts.take r) ++ Y,by rw [e];exact q2,q3,?_⟩
   ·rw [e] at hz
    cases i with
    | zero =>
      obtain rfl:(⟨a,n,r⟩:StepD)=z:=by simpa using hz
      dsimp only
      rw [e1,e2,List.length_map,List.length_map]
      exact ⟨hlast,rfl⟩
    | succ i=>exact q1 i z (by simpa using hz) (by omega)
   ·rw [e4,List.append_assoc,← q4]
    have h5:parts=parts.take r ++ [x]:=by
     have h6:=List.take_append_drop r parts
     rw [List.drop_eq_getElem_cons hrl,(List.getElem?_eq_some_iff.1 hx).2,List.drop_of_length_le (by omega)] at h6
     exact h6.symm
    conv=>lhs;rw [h5]
    rw [List.flatMap_append]
    simp [esOf]
end Go.Proofs.YtgkddhncfaeidaaGreat
namespace Go.Proofs.YtgkddhncfaeidaaGreat
open Go.RowKit Go.ChangeShapes Go.WideShapes Go.ChangeAt CrcM PageM
theorem ins_end (base n c d:Nat) (A B:Option Addr) (us vs:List Value) (w:World) (h:w.ownsRow base 40 8 (.slice A n c) n us) (hn:1≤n) (hv:CellsAt w B vs) (hvl:vs.length=8) (hm:n≤1000000) (h2:∀ u ∈ vs,u.oneCell'=true) (hbase:base≤w.heap.size) :
 Calls Tryz.prog 41 #[.slice A n c,.int .i64 (n:Int),.slice B 1 d] w fun e w'=>(∃ A' c',e=.returned (.slice A' (n+1) c')∧w'.ownsRow base 40 8 (.slice A' (n+1) c') (n+1) (us ++ vs))∧w.grownBy w' (Value.slice A n c).ownBlock:=by
 have HR:=Lib.hid h
 have HV:=Lib.hid hv
 have HVL:=Lib.hid hvl
 have H2:=Lib.hid h2
 have HBW:=Lib.hid hbase
 obtain ⟨hlen,⟨_,h0⟩ | ⟨g,cap,cu,hv,hb,hg,hnc,hcm,hcs,htk⟩⟩:=h
 ·omega
 injection hv with hA _ hc
 subst hA hc
 have hcm':=hcm
 unfold maxLen at hcm'
 clear hlen hv hb hg hcm hcs htk hvl h2 hbase
 have q1:(n:Int)≤(c:Int):=by omega
 by_cases hcn:c=n
 ·subst hcn
  go_enter Tryz.func41,Tryz.ntmps41
  go_wp2_with (at_builtin;refine wpList_append_row rfl (.tmp 23) (.tmp 24) 29 rfl Tryz.underlying29 (.agg #[.int .i64 0,.int .i64 0,.int .i64 0,.int .i64 0,.int .i64 0,.int .i64 0,.int .i64 0,.int .u32 0]) 64 info_del_ent (by rfl) (by decide) _ rfl HR.out _ _ 1 rfl (by have:=HVL.out;omega) HV.out H2.out (by omega) (by unfold maxLen;omega) HBW.out (c+1) rfl _ rfl ?_;intro A1 c1 x1 R1 g1;have RX:=Lib.hid R1;have GX:=Lib.hid g1;clear R1 g1)
  go_ret
  exact ⟨⟨_,_,rfl,RX.out⟩,GX.out⟩
 ·have q3:¬ c=n:=hcn
  go_enter Tryz.func41,Tryz.ntmps41
  go_wp2_with (at_builtin;refine wpList_append_row rfl (.tmp 23) (.tmp 24) 29 rfl Tryz.underlying29 (.agg #[.int .i64 0,.int .i64 0,.int .i64 0,.int .i64 0,.int .i64 0,.int .i64 0,.int .i64 0,.int .u32 0]) 64 info_del_ent (by rfl) (by decide) _ rfl HR.out _ _ 1 rfl (by have:=HVL.out;omega) HV.out H2.out (by omega) (by unfold maxLen;omega) HBW.out (n+1) rfl _ rfl ?_;intro A1 c1 x1 R1 g1;have RX:=Lib.hid R1;have GX:=Lib.hid g1;clear R1 g1)
  go_ret
  exact ⟨⟨_,_,rfl,RX.out⟩,GX.out⟩
end Go.Proofs.YtgkddhncfaeidaaGreat
namespace Go.Proofs.YtgkddhncfaeidaaGreat
open Go.ChangeShapes Go.WideShapes Go.ChangeAt Go.RowKit CrcM PageM
theorem kindB_inj {a b:Bool} (h:kindB a=kindB b):a=b:=by
 cases a <;> cases b <;> first | rfl | (exfalso;revert h;decide)
theorem nodeB_inj {n m:NodeD} (hl:n.leaf=m.leaf) (hn:okNode n) (hm:okNode m) (in_:inNode n) (im:inNode m) (h:nodeB n=nodeB m):n=m:=by
 have h2:n.es.flatMap enB ++ (n.ks.zip n.ds).flatMap kidB=m.es.flatMap enB ++ (m.ks.zip m.ds).flatMap kidB:=by
  unfold nodeB at h
  exact (List.cons.inj h).2
 obtain ⟨lf,es,ks,ds⟩:=n
 obtain ⟨lf2,es2,ks2,ds2⟩:=m
 dsimp only at hl h2
 subst hl
 unfold okNode at hn hm
 dsimp only at hn hm
 cases lf with
 | true =>
   rw [if_pos rfl] at hn hm
   obtain ⟨rfl,rfl,e1⟩:=hn
   obtain ⟨rfl,rfl,e2⟩:=hm
   simp only [List.zip_nil_left,List.flatMap_nil,List.append_nil] at h2
   have hlen:es.length=es2.length:=by
    have:=congrArg List.length h2
    rw [flat_len length_enB,flat_len length_enB] at this
    omega
   have q1:=entsP_enB es (fun e he=>⟨okEnts_mem e1 e he,in_.1 e he⟩)
   have q2:=entsP_enB es2 (fun e he=>⟨okEnts_mem e2 e he,im.1 e he⟩)
   rw [h2,hlen,q2] at q1
   rw [q1]
 | false =>
   rw [if_neg (by decide)] at hn hm
   obtain ⟨rfl,l1,k1,d1⟩:=hn
   obtain ⟨rfl,l2,k2,d2⟩:=hm
   simp only [List.flatMap_nil,List.nil_append] at h2
   have hz1:(ks.zip ds).map Prod.fst=ks:=List.map_fst_zip (by omega)
   have hz2:(ks2.zip ds2).map Prod.fst=ks2:=List.map_fst_zip (by omega)
   have hy1:(ks.zip ds).map Prod.snd=ds:=List.map_snd_zip (by omega)
   have hy2:(ks2.zip ds2).map Prod.snd=ds2:=List.map_snd_zip (by omega)
   have hlen:(ks.zip ds).length=(ks2.zip ds2).length:=by
    have:=congrArg List.length h2
    rw [flat_len length_kidB,flat_len length_kidB] at this
    omega
   have okK:∀ {ks:List KeyD},okKeys ks→∀ k ∈ ks,okKey k.se:=fun h k hk=>by
    obtain ⟨i,hi⟩:=List.mem_iff_getElem?.1 hk
    obtain ⟨e,q1,q2,_⟩:=h.2.2 i (List.getElem?_eq_some_iff.1 hi).1
    rw [hi] at q1
    cases q1
    exact q2
   have q1:=keysP_kidB (ks.zip ds) (fun p hp=>⟨okK k1 p.1 (List.of_mem_zip hp).1,in_.2 p.1 (List.of_mem_zip hp).1⟩)
   have q2:=keysP_kidB (ks2.zip ds2) (fun p hp=>⟨okK k2 p.1 (List.of_mem_zip hp).1,im.2 p.1 (List.of_mem_zip hp).1⟩)
   have r1:=kidsP_kidB (ks.zip ds) (fun p hp=>okKids_mem d1 p.2 (List.of_mem_zip hp).2)
   have r2:=kidsP_kidB (ks2.zip ds2) (fun p hp=>okKids_mem d2 p.2 (List.of_mem_zip hp).2)
   rw [h2,hlen,q2,hz1,hz2] at q1
   rw [h2,hlen,r2,hy1,hy2] at r1
   rw [q1,r1]
theorem rdQ_fun {nw:List UInt8} {Ls a:Nat} {n m:NodeD} (ha:a<512) (h:rdQ nw Ls a n) (h':rdQ nw Ls a m):n=m:=by
 obtain ⟨a1,a2,a3,g,a4,a5⟩:=h
 obtain ⟨b1,b2,b3,g',b4,b5⟩:=h'
 have p1:=(parse_put (kindB n.leaf) a g (nodeB n) ha a4 (nd_len a1).1).2
 have p2:=(parse_put (kindB m.leaf) a g' (nodeB m) ha b4 (nd_len b1).1).2
 rw [← a5,b5,p2] at p1
 injection p1 with e1 e2 e3 e4
 exact nodeB_inj (kindB_inj e1).symm a1 b1 a2 b2 e4.symm
theorem rdL_read {U:List Bool} {nw nw':List UInt8} {Ls p gen:Nat} {V:List Bool} {rd:Nat→NodeD→Prop} {L:List (Nat × (NodeD × NdL))} (hrd:∀ a n,rd a n→rdQ nw Ls a n∧2≤a∧a<p∧V.getD a false=true) (hL:LaidOk p U V (L.map Prod.fst)) (hg:∀ x ∈ L,okNode x.2.1∧inNode x.2.1) (hLs:256*p≤Ls) (hgen:gen<18446744073709551616) (hp:PgsOf gen nw nw' L):∀ a n,rdL rd L a n→rdQ nw' Ls a n:=fun a n h=>by
 rcases h with h | ⟨l,h⟩
 ·obtain ⟨⟨a1,a2,a3,g,a4,a5⟩,_,_,hv⟩:=hrd a n h
  refine ⟨a1,a2,a3,g,a4,?_⟩
  rw [hp.2 a (fun hm=>by have:=(hL.2 a hm).2.2.2;rw [hv] at this;cases this)]
  exact a5
 ·have h1:=hL.2 a (List.mem_map_of_mem h)
  exact ⟨(hg _ h).1,(hg _ h).2,by have:=h1.2.1;omega,gen,hgen,hp.1 _ h⟩
end Go.Proofs.YtgkddhncfaeidaaGreat
namespace Go.Proofs.YtgkddhncfaeidaaGreat
open Go.RowKit Go.ChangeShapes Go.WideShapes Go.ChangeAt CrcM PageM
def rdU (nw:List UInt8) (Ls p:Nat) (U:List Bool) (a:Nat) (n:NodeD):Prop:=rdQ nw Ls a n∧2≤a∧a<p∧U.getD a false=true
theorem meets_nil (c:Nat) (x:EntD) (w:World) :
 Calls Tryz.prog 40 #[.slice none 0 c,.agg #[.int .i64 x.se,.int .i64 x.st,.int .i64 x.en,.int .i64 x.ad,.int .i64 x.le,.int .i64 x.cn,.int .i64 x.co,.int .u32 x.cr]] w fun e w'=>e=.returned (.bool false)∧Below w.heap.size w w':=by
 go_enter Tryz.func40,Tryz.ntmps40
 go_wp2_with fail
 go_ret
 exact ⟨rfl,(Below.refl _ _).alloc (Nat.le_refl _) _⟩
theorem insert_known (gv g gen p a hh:Nat) (U V:List Bool) {B N gs gn Ls cs cn:Nat} {rw:Value} {st nw:List UInt8} {ws:List (Nat × List UInt8)} (es:List EntD) (x y:EntD) (he:okEnt x) (ht:TreeQ nw Ls a hh es) (hu:Up es) (hk:atK es x.key=some y) (w:World) (hv:ViewAt w gv g gen (p:Int) U V) (hd:Dk w B N g gs gn rw Ls cs cn st nw ws true (-1)) :
 Calls Tryz.prog 17 #[.pointer (some ⟨gv,0,none⟩),.agg #[.int .i64 (a:Int),.int .i64 (hh:Int)],.agg #[.int .i64 x.se,.int .i64 x.st,.int .i64 x.en,.int .i64 x.ad,.int .i64 x.le,.int .i64 x.cn,.int .i64 x.co,.int .u32 x.cr]] w fun e w'=>e=.returned (.tuple #[.agg #[.int .i64 0,.int .i64 0],.int .i64 11])∧Below w.heap.size w w':=by
 have HWY:=Lib.hid (fun W hW=>wayK_any gv g gen p a hh U V es x.key ht hu w hv hd W hW)
 rw [hk] at HWY
 dsimp only [enV,EntD.key] at HWY
 have HE:=Lib.hid he
 clear ht hu hk hv hd he
 obtain ⟨hi,hhi⟩:∃ hi:Int,hi=(hh:Int):=⟨_,rfl⟩
 rw [← hhi] at HWY ⊢
 clear hhi
 obtain ⟨w3,hw3⟩:∃ w3,w3=((w.alloc (.cells #[.int .i64 (a:Int),.int .i64 hi] 43)).alloc (.cells #[.int .i64 x.se,.int .i64 x.st,.int .i64 x.en,.int .i64 x.ad,.int .i64 x.le,.int .i64 x.cn,.int .i64 x.co,.int .u32 x.cr] 40)).alloc (.cells #[.int .i64 0,.int .i64 0] 43):=⟨_,rfl⟩
 have G1:Hid (w3.heap[w.heap.size]?=some (.cells #[.int .i64 (a:Int),.int .i64 hi] 43 (0,0))):=Lib.hid (by
  rw [hw3]
  exact row_stays (row_stays (heap_alloc_new w _) (alloc_bel rfl)) (alloc_bel rfl))
 have G2:Hid (w3.heap[w.heap.size+1]?=some (.cells #[.int .i64 x.se,.int .i64 x.st,.int .i64 x.en,.int .i64 x.ad,.int .i64 x.le,.int .i64 x.cn,.int .i64 x.co,.int .u32 x.cr] 40 (0,0))):=Lib.hid (by
  rw [hw3]
  have h1:=heap_alloc_new (w.alloc (.cells #[.int .i64 (a:Int),.int .i64 hi] 43)) (.cells #[.int .i64 x.se,.int .i64 x.st,.int .i64 x.en,.int .i64 x.ad,.int .i64 x.le,.int .i64 x.cn,.int .i64 x.co,.int .u32 x.cr] 40)
  rw [World.size_alloc] at h1
  exact row_stays h1 (alloc_bel rfl))
 have G3:Hid (w3.heap[w.heap.size+1+1]?=some (.cells #[.int .i64 0,.int .i64 0] 43 (0,0))):=Lib.hid (by
  rw [hw3]
  have h1:=heap_alloc_new ((w.alloc (.cells #[.int .i64 (a:Int),.int .i64 hi] 43)).alloc (.cells #[.int .i64 x.se,.int .i64 x.st,.int .i64 x.en,.int .i64 x.ad,.int .i64 x.le,.int .i64 x.cn,.int .i64 x.co,.int .u32 x.cr] 40)) (.cells #[.int .i64 0,.int .i64 0] 43)
  rw [World.size_alloc,World.size_alloc] at h1
  exact h1)
 have B3:Hid (Below w.heap.size w w3):=Lib.hid (by
  rw [hw3]
  exact (((Below.refl _ w).alloc (Nat.le_refl _) _).alloc (by simp) _).alloc (by simp;omega) _)
 have HW3:=Lib.hid hw3
 clear hw3
 go_enter Tryz.func17,Tryz.ntmps17
 go_upto_region 1 with fail
 rw [← HW3.out]
 clear HW3
 go_upto_region 3 with (first
  | (refine wpList_load_row rfl 40 (.tmp 5) rfl (w.heap.size+1) rfl 40 _ (0,0) _ G2.out Tryz.underlying40 rfl (by kernel_rfl) ?_)
  | (go_at_call 39;refine (rightEntry_yes x HE.out _).mono ?_;rintro e w4 ⟨rfl,hb4⟩;have R1:=Lib.hid (row_stays G1.out hb4);have R2:=Lib.hid (row_stays G2.out hb4);have R3:=Lib.hid (row_stays G3.out hb4);have B4:=Lib.hid (B3.out.trans (hb4.mono B3.out.size));clear hb4))
 have z0:=nd_cell R2.out 0 (.int .i64 x.se) rfl
 have z1:=nd_cell R2.out 1 (.int .i64 x.st) rfl
 go_upto_region 6 with (first
  | (refine wpList_load_row rfl 43 (.tmp 4) rfl w.heap.size rfl 43 _ (0,0) _ R1.out Tryz.underlying43 rfl (by kernel_rfl) ?_)
  | (go_at_call 35;refine (HWY.out _ B4.out).mono ?_;rintro e w5 ⟨A,n,c,rfl,hb5,hk5⟩;have HK:=Lib.hid hk5;have S2:=Lib.hid (row_stays R2.out hb5);have S3:=Lib.hid (row_stays R3.out hb5);have B5:=Lib.hid (B4.out.trans (hb5.mono B4.out.size));clear hb5 hk5))
 clear z0 z1
 have z0:=nd_cell S2.out 0 (.int .i64 x.se) rfl
 have z1:=nd_cell S2.out 1 (.int .i64 x.st) rfl
 go_upto_region 7 with (go_at_call 36;refine (HK.out _ (Below.refl _ _)).mono ?_;rintro e w6 ⟨rfl,hb6⟩;have T3:=Lib.hid (row_stays S3.out hb6);have B6:=Lib.hid (B5.out.trans (hb6.mono B5.out.size));clear hb6)
 clear z0 z1
 obtain ⟨w7,hw7⟩:∃ w7,w7=w6.alloc (.cells #[.int .i64 y.se,.int .i64 y.st,.int .i64 y.en,.int .i64 y.ad,.int .i64 y.le,.int .i64 y.cn,.int .i64 y.co,.int .u32 y.cr] 40):=⟨_,rfl⟩
 have A7:=Lib.hid (alloc_bel hw7)
 have G7:=Lib.hid (row_stays T3.out A7.out)
 have B7:=Lib.hid (B6.out.trans (A7.out.mono B6.out.size))
 rw [← hw7]
 clear hw7
 go_wp2_with (refine wpList_store_row rfl 43 (.tmp 6) (.tmp 38) rfl (w.heap.size+1+1) _ rfl rfl 43 _ G7.out (by kernel_rfl) rfl (by simp [Value.oneCell']) ?_)
 refine bodyPost_ret (v:=.tuple #[.agg #[.int .i64 0,.int .i64 0],.int .i64 11]) (results_cell_tmpB (p:=6) (u:=7) (ty:=43) rfl _ _ (w.heap.size+1+1) 43 _ (0,0) _ rfl (setRow_heap _ _ _ _ _ _ G7.out) Tryz.underlying43 rfl (by kernel_rfl)) rfl ⟨rfl,?_⟩
 exact below_setRow B7.out (by omega) _
theorem okN_small {n:NodeD} (h:okNode n):n.es.length≤7∧n.ks.length≤16:=by
 unfold okNode at h
 split at h
 ·have h1:=h.2.2.2.1
  rw [h.1]
  exact ⟨h1,Nat.zero_le _⟩
 ·have h1:=h.2.2.1.2.1
  rw [h.1]
  exact ⟨Nat.zero_le _,h1⟩
end Go.Proofs.YtgkddhncfaeidaaGreat
namespace Go.Proofs.YtgkddhncfaeidaaGreat
open Go.RowKit CrcM PageM
theorem getD_gaveN:∀ (bs:List Nat) (U:List Bool) (j:Nat),(∀ a ∈ bs,a<U.length)→(gaveN U bs).getD j false=if j ∈ bs then false else U.getD j false
 | [],U,j,_=>by simp [gaveN]
 | a :: bs,U,j,h=>by
   have ha:=h a (List.mem_cons_self ..)
   rw [show gaveN U (a :: bs)=gaveN (markN U a false 1) bs from rfl,getD_gaveN bs _ j (fun b hb=>by rw [length_markN];exact h b (List.mem_cons_of_mem _ hb)),getD_mark1 ha]
   by_cases h1:j ∈ bs
   ·rw [if_pos h1,if_pos (List.mem_cons_of_mem _ h1)]
   ·rw [if_neg h1]
    by_cases h2:j=a
    ·rw [if_pos h2,if_pos (by rw [h2];exact List.mem_cons_self ..)]
    ·rw [if_neg h2,if_neg (by intro h3;rcases List.mem_cons.1 h3 with h3 | h3;exact h2 h3;exact h1 h3)]
theorem length_gaveN:∀ (bs:List Nat) (U:List Bool),(gaveN U bs).length=U.length
 | [],U=>rfl
 | a :: bs,U=>by rw [show gaveN U (a :: bs)=gaveN (markN U a false 1) bs from rfl,length_gaveN bs,length_markN]
theorem getD_marks':∀ (qs:List Nat) (U:List Bool) (j:Nat),(∀ a ∈ qs,a<U.length)→(marks U qs).getD j false=if j ∈ qs then true else U.getD j false
 | [],U,j,_=>by simp [marks]
 | a :: qs,U,j,h=>by
   have ha:=h a (List.mem_cons_self ..)
   rw [marks_cons,getD_marks' qs _ j (fun b hb=>by rw [length_markN];exact h b (List.mem_cons_of_mem _ hb)),getD_mark1 ha]
   by_cases h1:j ∈ qs
   ·rw [if_pos h1,if_pos (List.mem_cons_of_mem _ h1)]
   ·rw [if_neg h1]
    by_cases h2:j=a
    ·rw [if_pos h2,if_pos (by rw [h2];exact List.mem_cons_self ..)]
    ·rw [if_neg h2,if_neg (by intro h3;rcases List.mem_cons.1 h3 with h3 | h3;exact h2 h3;exact h1 h3)]
def lfD (l:List EntD):NodeD:=⟨true,l,[],[]⟩
def Shp (rq:Nat→NodeD→Prop) (a hh:Nat) (es:List EntD) (pg:List Nat):Prop :=
 (hh=0∧es=[]∧pg=[]) ∨
 (hh=1∧rq a (lfD es)∧1≤es.length∧es.length≤7∧pg=[a]) ∨
 (hh=2∧∃ (ps:List (Nat × List EntD)) (b:Nat) (l:List EntD),rq a ⟨false,[],(ps ++ [(b,l)]).map (fun x=>leastK (lfD x.2)),(ps ++ [(b,l)]).map (fun x=>kidI x.1)⟩∧(∀ x ∈ ps,rq x.1 (lfD x.2)∧x.2.length=4)∧rq b (lfD l)∧4≤l.length∧l.length≤7∧1≤ps.length∧es=ps.flatMap Prod.snd ++ l∧pg=a :: b :: ps.map Prod.fst)
structure UseS (p:Nat) (M U:List Bool) (pg:List Nat):Prop where
 nd:pg.Nodup
 rng:∀ b ∈ pg,2≤b∧b<p
 use:∀ b,U.getD b false=true ↔ M.getD b false=true∨b ∈ pg
 off:∀ b ∈ pg,M.getD b false=false
theorem UseS.next {p:Nat} {M U U' V:List Bool} {pg pg' G Q:List Nat} (h:UseS p M U pg) (hU:U.length=512) (hV:V.length=512) (hp:p≤512) (he:U'=marks (gaveN U G) Q) (hG:∀ b ∈ G,b ∈ pg) (hpg:∀ b,b ∈ pg' ↔ b ∈ Q∨(b ∈ pg∧b ∉ G)) (hl:LaidOk p U' (orK U V 512) Q) (hn:(∀ b ∈ Q,b ∉ pg)→pg'.Nodup):UseS p M U' pg':=by
 have hQU:∀ b ∈ Q,U.getD b false=false:=fun b hb=>by
  have h1:=(hl.2 b hb).2.2.2
  have h2:=(hl.2 b hb).2.1
  rw [getD_orK U V b 512 (by rw [hV];exact Nat.le_refl _),if_pos (by omega)] at h1
  simp only [Bool.or_eq_false_iff] at h1
  exact h1.2
 have hQM:∀ b ∈ Q,M.getD b false=false∧b ∉ pg:=fun b hb=>by
  have h1:=hQU b hb
  refine ⟨?_,fun h2=>?_⟩
  ·cases h2:M.getD b false with
   | false=>rfl
   | true =>
     have:=(h.use b).2 (.inl h2)
     rw [h1] at this
     cases this
  ·have:=(h.use b).2 (.inr h2)
   rw [h1] at this
   cases this
 have hget:∀ b,U'.getD b false=if b ∈ Q then true else if b ∈ G then false else U.getD b false:=fun b=>by
  rw [he,getD_marks' Q _ b (fun a ha=>by rw [length_gaveN,hU];have:=(hl.2 a ha).2.1;omega),getD_gaveN G U b (fun a ha=>by rw [hU];have:=(h.rng a (hG a ha)).2;omega)]
 refine ⟨hn (fun b hb=>(hQM b hb).2),fun b hb=>?_,fun b=>?_,fun b hb=>?_⟩
 ·rcases (hpg b).1 hb with h1 | ⟨h1,_⟩
  ·have:=hl.2 b h1
   omega
  ·exact h.rng b h1
 ·rw [hget b,hpg b]
  by_cases h1:b ∈ Q
  ·simp [h1]
  ·rw [if_neg h1]
   by_cases h2:b ∈ G
   ·rw [if_pos h2]
    have h3:=h.off b (hG b h2)
    simp [h1,h2]
    simpa using h3
   ·rw [if_neg h2,h.use b]
    simp [h1,h2]
 ·rcases (hpg b).1 hb with h1 | ⟨h1,_⟩
  ·exact (hQM b h1).1
  ·exact h.off b h1
theorem Shp.tre {nw:List UInt8} {Ls p a h:Nat} {M U:List Bool} {es:List EntD} {pg:List Nat} (hs:Shp (rdQ nw Ls) a (h+1) es pg) (hu:UseS p M U pg):∃ nr,rdU nw Ls p U a nr∧Tre (rdU nw Ls p U) h nr es∧h≤1∧1≤es.length:=by
 have hpg:∀ b n,b ∈ pg→rdQ nw Ls b n→rdU nw Ls p U b n:=fun b n hb hr=>⟨hr,(hu.rng b hb).1,(hu.rng b hb).2,(hu.use b).2 (.inr hb)⟩
 rcases hs with ⟨h1,_⟩ | ⟨h1,h2,h3,h4,h5⟩ | ⟨h1,ps,b,l,h2,h3,h4,h5,h6,h7,h8,h9⟩
 ·omega
 ·obtain rfl:h=0:=by omega
  exact ⟨lfD es,hpg _ _ (by rw [h5];simp) h2,⟨rfl,rfl,rfl,rfl⟩,by omega,h3⟩
 ·obtain rfl:h=1:=by omega
  refine ⟨_,hpg _ _ (by rw [h9];simp) h2,⟨rfl,rfl,(ps ++ [(b,l)]).map (fun x=>(x.1,(lfD x.2,x.2))),by rw [List.map_map];rfl,by rw [List.map_map];rfl,fun x hx=>?_,?_,by simp⟩,by omega,?_⟩
  ·obtain ⟨y,hy,rfl⟩:=List.mem_map.1 hx
   rcases List.mem_append.1 hy with hy | hy
   ·have h10:=h3 y hy
    exact ⟨hpg _ _ (by rw [h9];simp only [List.mem_cons,List.mem_map];exact .inr (.inr ⟨y,hy,rfl⟩)) h10.1,⟨rfl,rfl,rfl,rfl⟩,by show 1≤y.2.length;omega⟩
   ·rw [List.mem_singleton.1 hy]
    exact ⟨hpg _ _ (by rw [h9];simp) h4,⟨rfl,rfl,rfl,rfl⟩,by show 1≤l.length;omega⟩
  ·rw [h8,List.map_append,List.flatMap_append]
   simp [List.flatMap_map]
  ·rw [h8,List.length_append]
   omega
end Go.Proofs.YtgkddhncfaeidaaGreat
