/- Squeezed: the texts as they are written lie in wip/tpl. -/
import Derived.Test.YtgkddhncfaeidaaGreatPart02
import Derived.Test.YtgkddhncfaeidaaGreatPart00
import Derived.StillTail
import Derived.RangeFuncNested
import Derived.RangeFuncBound
import Derived.RangeFuncCalls
import Derived.RangeFuncLeaves
import Derived.RangeFuncBox
import Derived.Shelf.Abstract
import Derived.Shelf.RegionOpen
import Derived.WalkKit
import Derived.OwnWalkIn
import Derived.TacticsInMore
import Derived.LoopNIn
import Derived.LoopIn
set_option maxRecDepth 100000
set_option maxHeartbeats 4000000
set_option linter.unusedSimpArgs false
set_option linter.unusedVariables false
namespace Go.Proofs.YtgkddhncfaeidaaGreat
open Go.ChangeShapes Go.WideShapes Go.ChangeAt Go.RowKit CrcM PageM
def IsB (r:Bool) (P:Prop):Prop:=r=true ↔ P
theorem IsB.ex (P:Prop):∃ r,IsB r P:=by
 unfold IsB
 by_cases h:P
 ·exact ⟨true,by simp [h]⟩
 ·exact ⟨false,by simp [h]⟩
theorem IsB.yes {P:Prop} (h:IsB true P):P:=Iff.mp h rfl
theorem IsB.no {P:Prop} (h:IsB false P):¬ P:=fun p=>by cases Iff.mpr h p
theorem IsB.isF {r:Bool} {P:Prop} (h:IsB r P) (p:¬ P):r=false:=by cases r;rfl;exact absurd h.yes p
theorem slice_to (t:TypeId) (hu:Tryz.prog.underlying t=some (.slice (Tryz.prog.elem t))) (hsz:(Tryz.prog.info? (Tryz.prog.elem t)).map (·.size)=some 1) (A:Option Addr) (n c j:Nat) (hj:j≤c) (w:World) :
 (Instr.sliceAt t (.slice A n c) none (some (.int .i64 (j:Int))) none).run Tryz.prog w=.ok (.slice A j c) w:=by
 have hz:(sizeOf (Tryz.prog.elem t)).run Tryz.prog w=.ok 1 w:=by
  cases hq:Tryz.prog.info? (Tryz.prog.elem t) with
  | none=>rw [hq] at hsz;cases hsz
  | some i=>rw [hq] at hsz;simp at hsz;simp [sizeOf,typeInfo,hq,hsz]
 rw [run_sliceAt_slice (t:=t) (h:=hu),run_slice_h (t:=t) (ht:=hu) (h0:=by omega) (h2:=by omega),hz]
 have ha:∀ a:Addr,a.add 0=a:=fun a=>by unfold Addr.add;split <;> simp_all
 have hm:A.map (fun x=>x.add (0*1))=A:=by cases A <;> simp [ha]
 simp only [Result.andThen_ok,sliced,Int.toNat_natCast,Nat.sub_zero,hm,ite_self]
theorem KdAt.take {w:World} {A:Option Addr} {zs:List Int} (h:KdAt w A zs) (k:Nat):KdAt w A (zs.take k):=fun hne=>by
 obtain ⟨b,off,hA,hc⟩:=h (fun e=>hne (by rw [e];simp))
 exact ⟨b,off,hA,fun i z hi=>hc i z (by rw [List.getElem?_take] at hi;split at hi;exact hi;cases hi)⟩
theorem index_any (A:Option Addr) (n c:Nat) (zs:List Int) (hn:zs.length=n) (hm:n≤maxLen) (v:Int) (w:World) (hx:KdAt w A zs) :
 Calls Tryz.prog 147 #[.slice A n c,.int .i64 v] w fun e w'=>(∃ z:Int,e=.returned (.int .i64 z)∧(v ∈ zs→0≤z)∧(v ∉ zs→z=-1))∧w=w':=by
 unfold maxLen at hm
 have HN:=Lib.hid hn
 have HX:=Lib.hid hx
 clear hx hn
 go_enter Tryz.func147,Tryz.ntmps147
 go_wp2_with fail
 go_loopw [8] (fun i wr=>∃ k:Nat,k≤n∧i=.int .i64 k∧Hid (∀ j z,j<k→zs[j]?=some z→z≠v)∧w=wr) (fun i _=>n - (intOf i).toNat)
 case atStart=>exact ⟨0,by omega,rfl,Lib.hid (fun j z hj=>by omega),rfl⟩
 case round =>
  obtain ⟨k,hk,rfl,HS,rfl⟩:=hrel
  by_cases hlt:k<n
  ·obtain ⟨z,hz⟩:∃ z,zs[k]?=some z:=⟨_,List.getElem?_eq_getElem (by rw [HN.out];exact hlt)⟩
   obtain ⟨b,off,rfl,hc⟩:=HX.out (by intro e;have:=HN.out;rw [e] at this;simp at this;omega)
   have c0:=hc k z hz
   have HZ:=Lib.hid hz
   clear hc hz
   by_cases hv:v=z
   ·have d0:(v == z)=true:=by simp [hv]
    have HV:=Lib.hid hv
    clear hv
    go_wp2_with fail
    go_ret
    exact ⟨⟨k,rfl,fun _=>by omega,fun h=>absurd (List.mem_of_getElem? (HV.out ▸ HZ.out)) h⟩,rfl⟩
   ·have d0:(v == z)=false:=by simp [hv]
    have HV:=Lib.hid hv
    clear hv
    go_wp2_with fail
    go_roundw
    case rel=>exact ⟨k+1,by omega,by go_num,Lib.hid (fun j y hj hy=>by rcases Nat.lt_succ_iff_lt_or_eq.1 hj with h | rfl;exact HS.out j y h hy;rw [HZ.out] at hy;cases hy;exact fun e=>HV.out e.symm),by first | rfl | trivial⟩
    case measure=>first | (simp [intOf];done) | (simp [intOf];omega)
  ·obtain rfl:k=n:=by omega
   go_wp2_with fail
   go_ret
   refine ⟨⟨-1,rfl,fun h=>?_,fun _=>rfl⟩,rfl⟩
   obtain ⟨j,hj⟩:=List.getElem?_of_mem h
   exact absurd rfl (HS.out j v (by have:=(List.getElem?_eq_some_iff.1 hj).1;have:=HN.out;omega) hj)
theorem contains_any (A:Option Addr) (n c:Nat) (zs:List Int) (hn:zs.length=n) (hm:n≤maxLen) (v:Int) (r:Bool) (hr:r=true ↔ v ∈ zs) (w:World) (hx:KdAt w A zs) :
 Calls Tryz.prog 113 #[.slice A n c,.int .i64 v] w fun e w'=>e=.returned (.bool r)∧w=w':=by
 have HI:=Lib.hid (index_any A n c zs hn hm v w hx)
 have HR:=Lib.hid hr
 clear hr hx hn
 by_cases h:v ∈ zs
 ·have hf:=HR.out.2 h
  subst hf
  go_enter Tryz.func113,Tryz.ntmps113
  go_wp2_with (go_at_call 147;refine (HI.out).mono ?_;rintro e w1 ⟨⟨z,rfl,hz,_⟩,rfl⟩;have d0:decide (0≤z)=true:=by (simpa using hz h))
  go_ret
  exact ⟨rfl,rfl⟩
 ·have hf:r=false:=by cases r;rfl;exact absurd (HR.out.1 rfl) h
  subst hf
  go_enter Tryz.func113,Tryz.ntmps113
  go_wp2_with (go_at_call 147;refine (HI.out).mono ?_;rintro e w1 ⟨⟨z,rfl,_,hz⟩,rfl⟩;obtain rfl:=hz h)
  go_ret
  exact ⟨rfl,rfl⟩
def okKidStep (zs:List Int) (i:Nat):Prop:=∃ z,zs[i]?=some z∧okAddr z∧z ∉ zs.take i
def okKids (zs:List Int):Prop:=∀ i,i<zs.length→okKidStep zs i
theorem isAddr_d (a:Int) (r:Bool) (hr:decide (okAddr a)=r) (w:World) :
 Calls Tryz.prog 112 #[.int .i64 a] w fun e w'=>e=.returned (.bool r)∧Below w.heap.size w w':=by subst hr;exact isAddr_any a w
theorem rightKids_any (A:Option Addr) (n c:Nat) (zs:List Int) (hn:zs.length=n) (hm:n≤maxLen) (hc:n≤c) (r:Bool) (hr:r=true ↔ okKids zs) (w:World) (hx:KdAt w A zs) :
 Calls Tryz.prog 73 #[.slice A n c] w fun e w'=>e=.returned (.bool r)∧Below w.heap.size w w':=by
 have HM:=Lib.hid hm
 unfold maxLen at hm
 have HN:=Lib.hid hn
 have HR:=Lib.hid hr
 have HX:=Lib.hid hx
 have HF:Hid (¬ okKids zs→r=false):=Lib.hid (fun h=>by cases r;rfl;exact absurd (hr.1 rfl) h)
 clear hr hx hn
 go_enter Tryz.func73,Tryz.ntmps73
 go_wp2_with fail
 go_loopw [7] (fun i wr=>∃ k:Nat,k≤n∧i=.int .i64 k∧Hid (∀ j,j<k→okKidStep zs j)∧Below w.heap.size w wr) (fun i _=>n - (intOf i).toNat)
 case atStart=>exact ⟨0,by omega,rfl,Lib.hid (fun j hj=>by omega),Below.refl _ _⟩
 case round =>
  obtain ⟨k,hk,rfl,HS,hb⟩:=hrel
  by_cases hlt:k<n
  ·obtain ⟨z,hz⟩:∃ z,zs[k]?=some z:=⟨_,List.getElem?_eq_getElem (by rw [HN.out];exact hlt)⟩
   have HXr:=Lib.hid (HX.out.below hb)
   obtain ⟨b,off,rfl,hcc⟩:=HXr.out (by intro e;have:=HN.out;rw [e] at this;simp at this;omega)
   have c0:=hcc k z hz
   have HZ:=Lib.hid hz
   have HB:=Lib.hid hb
   clear hcc hz hb
   by_cases ha:okAddr z
   ·have HD:Hid (decide (okAddr z)=true):=Lib.hid (decide_eq_true ha)
    have HOA:=Lib.hid ha
    clear ha
    have HSL:=fun W=>slice_to 59 (by kernel_rfl) (by kernel_rfl) (some ⟨b,off,none⟩) n c k (by omega) W
    obtain ⟨q,hq⟩:=IsB.ex (z ∈ zs.take k)
    have HQ:=Lib.hid hq
    clear hq
    cases q
    ·go_wp2_with (first
      | (go_at_call 112;(refine (isAddr_d z true HD.out _).mono ?_);rintro e w1 ⟨rfl,hb1⟩;have HB1:=Lib.hid hb1;clear hb1)
      | (go_at_call 113;(refine (contains_any _ k c (zs.take k) (by rw [List.length_take];have:=HN.out;omega) (by have:=HM.out;omega) z false HQ.out _ ((HXr.out.take k).below HB1.out)).mono ?_);rintro e w2 ⟨rfl,rfl⟩))
     go_roundw
     case rel=>exact ⟨k+1,by omega,by go_num,Lib.hid (fun j hj=>by rcases Nat.lt_succ_iff_lt_or_eq.1 hj with h | rfl;exact HS.out j h;exact ⟨z,HZ.out,HOA.out,fun h=>by cases HQ.out.2 h⟩),HB.out.trans (HB1.out.mono HB.out.size)⟩
     case measure=>first | (simp [intOf];done) | (simp [intOf];omega)
    ·have hf:=HF.out (fun h=>by obtain ⟨y,h1,_,h3⟩:=h k (by have:=HN.out;omega);rw [HZ.out] at h1;cases h1;exact h3 (HQ.out.1 rfl))
     subst hf
     go_wp2_with (first
      | (go_at_call 112;(refine (isAddr_d z true HD.out _).mono ?_);rintro e w1 ⟨rfl,hb1⟩;have HB1:=Lib.hid hb1;clear hb1)
      | (go_at_call 113;(refine (contains_any _ k c (zs.take k) (by rw [List.length_take];have:=HN.out;omega) (by have:=HM.out;omega) z true HQ.out _ ((HXr.out.take k).below HB1.out)).mono ?_);rintro e w2 ⟨rfl,rfl⟩))
     go_ret
     exact ⟨rfl,HB.out.trans (HB1.out.mono HB.out.size)⟩
   ·have HD:Hid (decide (okAddr z)=false):=Lib.hid (decide_eq_false ha)
    have hf:=HF.out (fun h=>by obtain ⟨y,h1,h2,_⟩:=h k (by have:=HN.out;omega);rw [HZ.out] at h1;cases h1;exact ha h2)
    subst hf
    clear ha
    go_wp2_with (go_at_call 112;(refine (isAddr_d z false HD.out _).mono ?_);rintro e w1 ⟨rfl,hb1⟩;have HB1:=Lib.hid hb1;clear hb1)
    go_ret
    exact ⟨rfl,HB.out.trans (HB1.out.mono HB.out.size)⟩
  ·obtain rfl:k=n:=by omega
   have hf:r=true:=HR.out.2 (fun i hi=>HS.out i (by have:=HN.out;omega))
   subst hf
   go_wp2_with fail
   go_ret
   exact ⟨rfl,hb⟩
structure NodeD where
 leaf:Bool
 es:List EntD
 ks:List KeyD
 ds:List Int
def okNode (n:NodeD):Prop:=if n.leaf=true then n.ks=[]∧n.ds=[]∧okEnts n.es else n.es=[]∧n.ks.length=n.ds.length∧okKeys n.ks∧okKids n.ds
structure NdL where
 EA:Option Addr
 ec:Nat
 KA:Option Addr
 kc:Nat
 DA:Option Addr
 dc:Nat
structure NodeAt (w:World) (n:NodeD) (l:NdL):Prop where
 e:EnAt w l.EA n.es
 k:KyAt w l.KA n.ks
 d:KdAt w l.DA n.ds
 ec:n.es.length≤l.ec
 kc:n.ks.length≤l.kc
 dc:n.ds.length≤l.dc
 em:l.ec≤maxLen
 km:l.kc≤maxLen
 dm:l.dc≤maxLen
theorem NodeAt.below {w w':World} {n:NodeD} {l:NdL} (h:NodeAt w n l) (hb:Below w.heap.size w w'):NodeAt w' n l:={ h with e:=h.e.below hb,k:=h.k.below hb,d:=h.d.below hb }
theorem right_any (n:NodeD) (l:NdL) (r:Bool) (hr:IsB r (okNode n)) (w:World) (h:NodeAt w n l) :
 Calls Tryz.prog 49 #[.agg #[.bool n.leaf,.slice l.EA n.es.length l.ec,.slice l.KA n.ks.length l.kc,.slice l.DA n.ds.length l.dc]] w fun e w'=>e=.returned (.bool r)∧Below w.heap.size w w':=by
 have H:=Lib.hid h
 have HR:=Lib.hid hr
 obtain ⟨lf,es,ks,ds⟩:=n
 obtain ⟨EA,ec,KA,kc,DA,dc⟩:=l
 dsimp only at *
 obtain ⟨ne,hne⟩:∃ x,es.length=x:=⟨_,rfl⟩
 obtain ⟨nk,hnk⟩:∃ x,ks.length=x:=⟨_,rfl⟩
 obtain ⟨nd,hnd⟩:∃ x,ds.length=x:=⟨_,rfl⟩
 have hem:ne≤maxLen:=by rw [← hne];exact Nat.le_trans h.ec h.em
 have hkm:nk≤maxLen:=by rw [← hnk];exact Nat.le_trans h.kc h.km
 have hdm:nd≤maxLen:=by rw [← hnd];exact Nat.le_trans h.dc h.dm
 have hdc:nd≤dc:=by rw [← hnd];exact h.dc
 rw [hne,hnk,hnd]
 have HNE:=Lib.hid hne
 have HNK:=Lib.hid hnk
 have HND:=Lib.hid hnd
 have HEM:=Lib.hid hem
 have HKM:=Lib.hid hkm
 have HDM:=Lib.hid hdm
 have HDC:=Lib.hid hdc
 obtain ⟨W,eW⟩:∃ W,W=w.alloc (.cells #[.bool lf,.slice EA ne ec,.slice KA nk kc,.slice DA nd dc] 86):=⟨_,rfl⟩
 have hrow:W.heap[w.heap.size]?=some (.cells #[.bool lf,.slice EA ne ec,.slice KA nk kc,.slice DA nd dc] 86 (0,0)):=by rw [eW];exact heap_alloc_new _ _
 have hbel:Below w.heap.size w W:=by rw [eW];exact (Below.refl _ _).alloc (Nat.le_refl _) _
 have EW:=Lib.hid eW.symm
 have HB:=Lib.hid hbel
 have HROW:=Lib.hid hrow
 have k0:=nd_cell hrow 0 _ rfl
 have k1:=nd_cell hrow 1 _ rfl
 have k2:=nd_cell hrow 2 _ rfl
 have k3:=nd_cell hrow 3 _ rfl
 clear h hr hne hnk hnd hem hkm hdm hdc eW hrow hbel
 cases lf with
 | true =>
   by_cases h1:nk=0
   ·have d1:((nk:Int) == 0)=true:=by simp [h1]
    have H1:=Lib.hid h1
    clear h1
    by_cases h2:nd=0
    ·have d2:((nd:Int) == 0)=true:=by simp [h2]
     have H2:=Lib.hid h2
     clear h2
     have hq:IsB r (okEnts es):=by
      have a:=HR.out
      unfold okNode at a
      simp only [if_true] at a
      have e1:ks=[]:=List.eq_nil_of_length_eq_zero (by rw [HNK.out,H1.out])
      have e2:ds=[]:=List.eq_nil_of_length_eq_zero (by rw [HND.out,H2.out])
      unfold IsB at a ⊢
      simpa [e1,e2] using a
     have HQ:=Lib.hid hq
     clear hq
     go_enter Tryz.func49,Tryz.ntmps49
     go_upto_region 1 with fail
     rw [EW.out]
     go_wp2_with (go_at_call 71;(refine (rightEntries_any EA ne ec es HNE.out HEM.out r HQ.out _ ((H.out.below HB.out).e)).mono ?_);rintro e w1 ⟨rfl,hb1⟩)
     go_ret
     exact ⟨rfl,HB.out.trans (hb1.mono HB.out.size)⟩
    ·have d2:((nd:Int) == 0)=false:=by simp [h2]
     have hf:=HR.out.isF (by unfold okNode;simp only [if_true];intro hx;exact h2 (by rw [← HND.out,hx.2.1];rfl))
     subst hf
     go_enter Tryz.func49,Tryz.ntmps49
     go_upto_region 1 with fail
     rw [EW.out]
     go_wp2_with fail
     go_ret
     exact ⟨rfl,HB.out⟩
   ·have d1:((nk:Int) == 0)=false:=by simp [h1]
    have hf:=HR.out.isF (by unfold okNode;simp only [if_true];intro hx;exact h1 (by rw [← HNK.out,hx.1];rfl))
    subst hf
    go_enter Tryz.func49,Tryz.ntmps49
    go_upto_region 1 with fail
    rw [EW.out]
    go_wp2_with fail
    go_ret
    exact ⟨rfl,HB.out⟩
 | false =>
   by_cases h1:ne=0
   ·have d1:((ne:Int) == 0)=true:=by simp [h1]
    have H1:=Lib.hid h1
    clear h1
    by_cases h2:nk=nd
    ·have d2:((nk:Int) == (nd:Int))=true:=by simp [h2]
     have d2':(nk == nd)=true:=by simp [h2]
     have H2:=Lib.hid h2
     clear h2
     obtain ⟨q,hq⟩:=IsB.ex (okKeys ks)
     have HQ:=Lib.hid hq
     clear hq
     have hes:es=[]:=List.eq_nil_of_length_eq_zero (by rw [HNE.out,H1.out])
     have HES:=Lib.hid hes
     clear hes
     cases q with
     | true =>
       have hq2:IsB r (okKids ds):=by
        have a:=HR.out
        unfold okNode at a
        unfold IsB at a ⊢
        rw [a]
        simp only [Bool.false_eq_true,if_false]
        exact ⟨fun x=>x.2.2.2,fun x=>⟨HES.out,by rw [HNK.out,HND.out,H2.out],HQ.out.yes,x⟩⟩
       have HQ2:=Lib.hid hq2
       clear hq2
       go_enter Tryz.func49,Tryz.ntmps49
       go_upto_region 3 with fail
       rw [EW.out]
       go_wp2_with (first
        | (go_at_call 72;(refine (rightKeys_any KA nk kc ks HNK.out HKM.out true HQ.out _ ((H.out.below HB.out).k)).mono ?_);rintro e w1 ⟨rfl,hb1⟩;have b3:=nd_cell ((hb1.block _ (Array.getElem?_eq_some_iff.1 HROW.out).1).trans HROW.out) 3 _ rfl;have HB1:=Lib.hid hb1;clear hb1)
        | (go_at_call 73;(refine (rightKids_any DA nd dc ds HND.out HDM.out HDC.out r HQ2.out _ (((H.out.below HB.out).below HB1.out).d)).mono ?_);rintro e w2 ⟨rfl,hb2⟩))
       go_ret
       exact ⟨rfl,HB.out.trans (HB1.out.trans (hb2.mono HB1.out.size) |>.mono HB.out.size)⟩
     | false =>
       have hf:=HR.out.isF (by unfold okNode;simp only [Bool.false_eq_true,if_false];intro hx;exact HQ.out.no hx.2.2.1)
       subst hf
       go_enter Tryz.func49,Tryz.ntmps49
       go_upto_region 3 with fail
       rw [EW.out]
       go_wp2_with (go_at_call 72;(refine (rightKeys_any KA nk kc ks HNK.out HKM.out false HQ.out _ ((H.out.below HB.out).k)).mono ?_);rintro e w1 ⟨rfl,hb1⟩)
       go_ret
       exact ⟨rfl,HB.out.trans (hb1.mono HB.out.size)⟩
    ·have d2:((nk:Int) == (nd:Int))=false:=by simp;omega
     have d2':(nk == nd)=false:=by simp;omega
     have hf:=HR.out.isF (by unfold okNode;simp only [Bool.false_eq_true,if_false];intro hx;exact h2 (by rw [← HNK.out,← HND.out,hx.2.1]))
     subst hf
     go_enter Tryz.func49,Tryz.ntmps49
     go_upto_region 3 with fail
     rw [EW.out]
     go_wp2_with fail
     go_ret
     exact ⟨rfl,HB.out⟩
   ·have d1:((ne:Int) == 0)=false:=by simp [h1]
    have hf:=HR.out.isF (by unfold okNode;simp only [Bool.false_eq_true,if_false];intro hx;exact h1 (by rw [← HNE.out,hx.1];rfl))
    subst hf
    go_enter Tryz.func49,Tryz.ntmps49
    go_upto_region 3 with fail
    rw [EW.out]
    go_wp2_with fail
    go_ret
    exact ⟨rfl,HB.out⟩
end Go.Proofs.YtgkddhncfaeidaaGreat
namespace Go.Proofs.YtgkddhncfaeidaaGreat
open Go.RowKit
section
variable {P:Program} {ops:Array Oper} {md:Region.Mode} {C:World→Prop}
def anyHead (P:Program) (md:Region.Mode) (ops:Array Oper) (C:World→Prop) (n:Nat) (L:Array Bool→Act→Prop):Nat→Array Bool→Act→Prop
 | 0,listed,a=>L listed a
 | f+1,listed,a =>
   Region.ready md ops listed≠[]∧∀ i ∈ Region.ready md ops listed,i<n∧qOp P ops C i (anyHead P md ops C n L f (listed.setIfInBounds i true)) a
theorem any_of_head {n g:Nat} {L:Array Bool→Act→Prop} {Q':Exit→Act→World→Prop} (hL:∀ listed a w,C w→L listed a→wpAny P md ops Q' g listed a w) :
 ∀ (f:Nat) (listed:Array Bool) (a:Act) (w:World),C w→anyHead P md ops C n L f listed a→wpAny P md ops Q' (f+g) listed a w
 | 0,listed,a,w,hw,h=>by rw [Nat.zero_add];exact hL _ _ _ hw h
 | f+1,listed,a,w,hw,h=>by
   rw [show f+1+g=(f+g)+1 by omega]
   exact ⟨fun h0=>absurd h0 h.1,fun i hi=>wpOp_of_qOp hw (fun a' w' hw' h'=>any_of_head hL f _ a' w' hw' h') (h.2 i hi).2⟩
theorem anyHead_first {n i:Nat} {oi:Oper} {v:Value} {L:Array Bool→Act→Prop} (hi:ops[i]?=some oi) (hsel:∀ (j:Nat) (o:Oper) cs b,ops[j]?=some o→o.op≠.select cs b)
 (hs:Region.sinkB md ops n=true) (hc:Region.chainB md ops n=true) (hn:n<ops.size) (hin:i<n)
 (hdone:∀ listed a,L listed a→∀ j ∈ Region.ready md ops listed,n≤j) :
 ∀ (f:Nat) (listed:Array Bool) (a:Act),HeadInv md ops n listed →
   (∀ j oj,ops[j]?=some oj→j≠i→listed.getD j true=false→(∀ e ∈ oj.after,Region.binds md e=true→e.on≠i)→oi.apart ops oj=true) →
   i ∈ Region.ready md ops listed→YieldsIn P ops C oi v a →
   anyHead P md ops C n L f (listed.setIfInBounds i true) (a.put oi.dst v)→anyHead P md ops C n L (f+1) listed a:=by
 intro f
 induction f with
 | zero =>
   intro listed a inv _ hr hy H
   have hun:=(mem_ready.1 hr).1
   refine ⟨fun h=>(by rw [h] at hr;cases hr),fun j hj=>?_⟩
   have hjn:j<n:=by
    rcases Nat.lt_or_ge j n with h | h
    ·exact h
    ·exact absurd hj (tail_waits hs hc hn inv _ i rfl hin hun j h)
   refine ⟨hjn,?_⟩
   by_cases hji:j=i
   ·subst hji;exact hy.qOp hi H
   ·have:=hdone _ _ H j (ready_mono hj hji)
    omega
 | succ f ih =>
   intro listed a inv hfree hr hy H
   have hun:=(mem_ready.1 hr).1
   refine ⟨fun h=>(by rw [h] at hr;cases hr),fun j hj=>?_⟩
   have hjn:j<n:=by
    rcases Nat.lt_or_ge j n with h | h
    ·exact h
    ·exact absurd hj (tail_waits hs hc hn inv _ i rfl hin hun j h)
   refine ⟨hjn,?_⟩
   by_cases hji:j=i
   ·subst hji;exact hy.qOp hi H
   ·have h1:=(H.2 j (ready_mono hj hji)).2
    obtain ⟨hjun,oj,hoj,hall⟩:=mem_ready.1 hj
    have hnot:∀ e ∈ oj.after,Region.binds md e=true→e.on≠i:=fun e he hb heq=>by
     have h1:=hall e he hb
     rw [heq,getD_both hun] at h1
     cases h1
    have h2:=qOp_put hoj (hfree j oj hoj hji hjun hnot) (fun cs b=>hsel i oi cs b hi) (fun cs b=>hsel j oj cs b hoj) hy h1
    have hfree':∀ k ok,ops[k]?=some ok→k≠i→(listed.setIfInBounds j true).getD k true=false →
     (∀ e ∈ ok.after,Region.binds md e=true→e.on≠i)→oi.apart ops ok=true:=fun k ok hk hki hun hno=>by
     refine hfree k ok hk hki ?_ hno
     by_cases hjk:j=k
     ·subst hjk;exact hjun
     ·rw [getD_set_ne true hjk] at hun;exact hun
    refine qOp_mono (fun a' h3=>ih (listed.setIfInBounds j true) a' (inv.set hj hjn) hfree' (ready_mono hr (Ne.symm hji)) h3.1 ?_) h2
    rw [Array.setIfInBounds_comm _ _ hji]
    exact h3.2
theorem anyHead_lex {n g:Nat} {Lq:Act→Prop} (hsel:Region.noSelect ops=true) (hs:Region.sinkB md ops n=true) (hc:Region.chainB md ops n=true) (hn:n<ops.size) :
 ∀ (l:List Oper) (k:Nat) (listed:Array Bool) (a:Act),(∀ j,j<l.length→l[j]?=ops[k+j]?)→k+l.length=n→HeadInv md ops n listed →
 Region.lexHead md ops g l.length k listed=true→wpQuiet P ops C Lq l a →
 anyHead P md ops C n (fun listed' a'=>Region.seqB md ops g n listed'=true∧Lq a') l.length listed a
 | [],k,listed,a,_,hk,_,hB,h=>by
   have:k=n:=by simpa using hk
   subst this
   exact ⟨by simpa [Region.lexHead] using hB,h⟩
 | o :: l,k,listed,a,hl,hk,inv,hB,h=>by
   have h0:ops[k]?=some o:=by simpa using (hl 0 (by simp)).symm
   simp only [List.length_cons,Region.lexHead,Bool.and_eq_true] at hB
   obtain ⟨⟨hr,hf⟩,hB'⟩:=hB
   have hkn:k<n:=by simp only [List.length_cons] at hk;omega
   have hr':k ∈ Region.ready md ops listed:=by simpa using hr
   have hst:qOp P ops C k (wpQuiet P ops C Lq l) a:=by unfold qOp;simp only [h0];exact h
   obtain ⟨v,hy,hK⟩:=yieldsIn_of_qOp h0 hst
   exact anyHead_first h0 (Region.noSelect_spec hsel) hs hc hn hkn (fun listed' a' hL=>seqB_ready hL.1) l.length listed a inv (Region.free_spec h0 hf) hr' hy
    (anyHead_lex hsel hs hc hn l (k+1) _ _ (fun j hj=>by have:=hl (j+1) (by simp;omega);simpa [Nat.add_assoc,Nat.add_comm 1 j] using this) (by simp only [List.length_cons] at hk;omega) (inv.set hr' hkn) hB' hK)
end
theorem region_below_tail {P:Program} {id:Nat} {Q:Exit→Act→World→Prop} {a:Act} {w:World} {l:List Oper} (n B:Nat) (w0:World) (hb:Below B w0 w)
 (hm:P.follows .mixedOrders=true) (hB:Region.lexTailB .any l.toArray n=true)
 (h:wpQuiet P l.toArray (fun w'=>∃ x:SubW B w0,w'=x.at_) (fun a'=>∀ w',(∃ x:SubW B w0,w'=x.at_)→wpList P l.toArray Q (l.drop n) a' w') (l.take n) a):(Code.region id l.toArray true).wp P Q a w:=by
 simp only [Region.lexTailB,Bool.and_eq_true,decide_eq_true_eq] at hB
 obtain ⟨⟨⟨⟨hsel,hn⟩,hs⟩,hc⟩,hlex⟩:=hB
 have hn':n<l.length:=by simpa using hn
 have htl:(l.take n).length=n:=by simp;omega
 have hdl:(l.drop n).length=l.toArray.size - n:=by simp
 have inv0:HeadInv .any l.toArray n (Array.replicate l.toArray.size false) :=
  ⟨by simp,fun j oj _ hl=>(by rw [getD_replicate_false] at hl;cases hl),fun t _ ht=>getD_in (by simpa using ht) (getD_replicate_false _ _)⟩
 have H:=anyHead_lex (md:=.any) (g:=l.toArray.size - n) hsel hs hc hn (l.take n) 0 _ a (fun j hj=>by
  have hj':j<n:=by rw [htl] at hj;exact hj
  simp [hj']) (by simpa using htl) inv0 (by rw [htl];exact hlex) h
 refine wp_region_any hm ?_
 have:=any_of_head (Q':=Q) (g:=l.toArray.size - n) (fun listed a' w' hw hL=>by
  have:=wpAny_of_seq (md:=.any) (Q':=Q) (l.drop n) n listed a' w' (fun j=>by simp [List.getElem?_drop]) (by rw [hdl];exact hL.1) (hL.2 w' hw)
  rwa [hdl] at this) _ _ _ { w with drawn:=w.drawn+1 } ⟨⟨_,below_drewN hb 1⟩,rfl⟩ H
 rw [htl,show n+(l.toArray.size - n)=l.toArray.size by omega] at this
 exact this
end Go.Proofs.YtgkddhncfaeidaaGreat
namespace Go.Proofs.YtgkddhncfaeidaaGreat
open Go.RowKit Go.Shelf
attribute [local go_sem] Oper.semAt_some
def chs (m len k:Nat):List (Nat × Nat):=(List.range k).map fun i=>(m*i,min m (len - m*i))
theorem chs_succ (m len k:Nat):chs m len (k+1)=chs m len k ++ [(m*k,min m (len - m*k))]:=by simp [chs,List.range_succ]
theorem chs_length (m len k:Nat):(chs m len k).length=k:=by simp [chs]
def encCh (b off:Nat) (x:Nat × Nat):Array Value:=#[.slice (some ⟨b,off+x.1*8,none⟩) x.2 x.2]
def KpCh (n₀ Bs Bn:Nat) (sv:Value) (W W':World):Prop:=Below n₀ W W'∧(Boxed W Bs 29 sv→Boxed W' Bs 29 sv)∧(Boxed W Bn 3 (.int .i64 7)→Boxed W' Bn 3 (.int .i64 7))
theorem KpCh.trans {n₀ Bs Bn:Nat} {sv:Value} {A B C:World} (h:KpCh n₀ Bs Bn sv A B) (k:KpCh n₀ Bs Bn sv B C):KpCh n₀ Bs Bn sv A C:=⟨h.1.trans k.1,fun x=>k.2.1 (h.2.1 x),fun x=>k.2.2 (h.2.2 x)⟩
theorem abides_below {β:Type} {J:β→World→Prop} {B:Nat} (h:AbidesFrom B J) {s:β} {W W':World} (hs:J s W) (hb:Below W.heap.size W W'):J s W' :=
 h s W W' none hs ⟨hb.os,hb.tape,hb.output,hb.size,fun k hk _=>hb.block k hk⟩ (fun r e=>by cases e)
theorem boxed_below {W W':World} {B:Nat} {t:TypeId} {v:Value} (h:Boxed W B t v) (hb:Below W.heap.size W W'):Boxed W' B t v:=(hb.block B h.lt).trans h
theorem chunk1_in (n:Nat) (hn:1≤n) (l Bs Bn n₀ b off len cap:Nat) (A:Option Addr) (hA:0<len→A=some ⟨b,off,none⟩) (hlc:len≤cap) (hm:len≤100000000) (hcm:cap≤maxLen) (J Jx:List (Nat × Nat)→World→Prop) (B0:Nat) (hJ:AbidesFrom B0 J)
 (hY:∀ pre x W,J pre W→pre.length<(len+6) / 7→YieldAt Fence.wide (n - 1) Tryz.prog l (encCh b off x) W fun e W' =>
  (e=.returned (.bool true)∧J (pre ++ [x]) W'∧KpCh n₀ Bs Bn (.slice A len cap) W W')∨(e=.returned (.bool false)∧Jx (pre ++ [x]) W'))
 (W:World) (hBs:Boxed W Bs 29 (.slice A len cap)) (hBn:Boxed W Bn 3 (.int .i64 7)) (h0:J [] W) :
 CallsIn Fence.wide n Tryz.prog 82 #[.func (.yield l) #[] #[],.pointer (some ⟨Bs,0,none⟩),.pointer (some ⟨Bn,0,none⟩)] W fun e W'=>(∃ v,e=.returned v) ∧
  ((∃ ys,ys=chs 7 len ((len+6) / 7)∧J ys W')∨(∃ pre,(∃ k,k≤(len+6) / 7∧pre=chs 7 len k)∧Jx pre W')):=by
 have hro:Fence.wide.round=none:=rfl
 refine callsIn_of_wp Tryz.func82 rfl trivial ?_ hro
 simp only [Tryz.ntmps82,List.size_toArray,List.length_cons,List.length_nil,Nat.reduceAdd,Nat.reduceSub,Array.replicate_succ,Array.replicate_zero,List.push_toArray,List.append_toArray,List.nil_append,List.cons_append]
 gi_wp2
 gi_loopw [4] (fun i wr=>∃ k:Nat,k≤(len+6) / 7∧i=.int .i64 ((7*k:Nat):Int)∧Hid (J (chs 7 len k) wr∧Boxed wr Bs 29 (.slice A len cap)∧Boxed wr Bn 3 (.int .i64 7)))
  (fun i _=>len+7 - (intOf i).toNat)
 case atStart=>exact ⟨0,Nat.zero_le _,rfl,Lib.hid ⟨h0,hBs,hBn⟩⟩
 case round =>
  obtain ⟨k,hk,rfl,HK⟩:=hrel
  have c1:=HK.out.2.1.cell
  have c2:=HK.out.2.2.cell
  by_cases hlt:7*k<len
  ·obtain rfl:=hA (by omega)
   obtain ⟨q,hq⟩:∃ q,min 7 (len - 7*k)=q:=⟨_,rfl⟩
   have hlti:decide (((7*k:Nat):Int)<(len:Int))=true:=by simp;omega
   gi_wp2
   refine wpIn_wide.2 ?_
   refine region_below wr.heap.size wr (Below.refl _ _) (by kernel_rfl) (by kernel_rfl) ?_
   have g1:∀ y:SubW wr.heap.size wr,y.at_.cell? ⟨Bs,0,none⟩=some (.slice (some ⟨b,off,none⟩) len cap):=fun y=>(boxed_below HK.out.2.1 y.ok_).cell
   have g2:∀ y:SubW wr.heap.size wr,y.at_.cell? ⟨Bn,0,none⟩=some (.int .i64 7):=fun y=>(boxed_below HK.out.2.2 y.ok_).cell
   have hmq:min (7:Int) ((len - 7*k:Nat):Int)=(q:Int):=by omega
   have hq1:7*k+q≤cap:=by omega
   repeat (go_big_quiet_step (fail))
   refine wpQuiet_nil ?_
   rintro w' ⟨y,rfl⟩
   have HY:=Lib.hid y.ok_
   obtain ⟨fn,tmps,assign,body,hy,hR⟩:=hY (chs 7 len k) (7*k,q) y.at_ (abides_below hJ HK.out.1 y.ok_) (by rw [chs_length];omega)
   dsimp only [encCh] at hy
   have c3:=g1 y
   clear g1 g2
   have HBs:=Lib.hid (boxed_below HK.out.2.1 HY.out)
   have HBn:=Lib.hid (boxed_below HK.out.2.2 HY.out)
   have HS:Hid (chs 7 len k ++ [(7*k,q)]=chs 7 len (k+1)):=Lib.hid (by rw [chs_succ,hq])
   gi_wp2
   refine hR.mono ?_
   rintro e W3 (⟨rfl,hJ3,hk3⟩ | ⟨rfl,hJx3⟩)
   ·have HB3:=Lib.hid (hk3.2.1 HBs.out)
    have HN3:=Lib.hid (hk3.2.2 HBn.out)
    have HJ3:=Lib.hid hJ3
    have c4:=HN3.out.cell
    clear hJ3 hk3 c1 c2 c3
    have hw7:wrap64 (((7*k:Nat):Int)+7)=((7*(k+1):Nat):Int):=by unfold wrap64;omega
    gi_wp2
    go_roundw
    case rel=>exact ⟨k+1,by omega,rfl,Lib.hid ⟨by rw [← HS.out];exact HJ3.out,HB3.out,HN3.out⟩⟩
    case measure=>simp only [intOf];omega
   ·gi_wp2
    refine bodyPost_ret (results_none rfl _ _ _) rfl ?_
    exact ⟨⟨_,rfl⟩,.inr ⟨_,⟨k+1,by omega,HS.out⟩,hJx3⟩⟩
  ·have hlti:decide (((7*k:Nat):Int)<(len:Int))=false:=by simp;omega
   have hke:k=(len+6) / 7:=by omega
   gi_wp2
   go_end0
   exact ⟨⟨_,rfl⟩,.inl ⟨_,by rw [← hke],HK.out.1⟩⟩
theorem chunk_in (n:Nat) (A:Option Addr) (len cap:Nat) (w:World) :
 CallsIn Fence.wide n Tryz.prog 55 #[.slice A len cap,.int .i64 7] w fun e w'=>e=.returned (.func (.func 82) #[] #[.pointer (some ⟨w.heap.size,0,none⟩),.pointer (some ⟨w.heap.size+1,0,none⟩)])∧w'=(w.alloc (.cells #[.slice A len cap] 29)).alloc (.cells #[.int .i64 7] 3):=by
 refine callsIn_of_wp Tryz.func55 rfl trivial ?_ rfl
 simp only [Tryz.ntmps55,List.size_toArray,List.length_cons,List.length_nil,Nat.reduceAdd,Nat.reduceSub,Array.replicate_succ,Array.replicate_zero,List.push_toArray,List.append_toArray,List.nil_append,List.cons_append]
 gi_wp2
 go_ret
 exact ⟨rfl,rfl⟩
theorem chunk_stops (n:Nat) (hn:1≤n) (Bs Bn n₀ b off len cap:Nat) (A:Option Addr) (hA:0<len→A=some ⟨b,off,none⟩) (hlc:len≤cap) (hm:len≤100000000) (hcm:cap≤maxLen) (w:World)
 (hBs:Boxed w Bs 29 (.slice A len cap)) (hBn:Boxed w Bn 3 (.int .i64 7)) :
 SeqStopsK Fence.wide n Tryz.prog 82 #[.pointer (some ⟨Bs,0,none⟩),.pointer (some ⟨Bn,0,none⟩)] (encCh b off) (KpCh n₀ Bs Bn (.slice A len cap)) (fun ys=>ys=chs 7 len ((len+6) / 7))
  (fun pre=>∃ k,k≤(len+6) / 7∧pre=chs 7 len k) ((len+6) / 7) w:=fun l J Jx W hW hJ _ hY h0 =>
 chunk1_in n hn l Bs Bn n₀ b off len cap A hA hlc hm hcm J Jx _ hJ hY W (boxed_below hBs hW) (boxed_below hBn hW) h0
end Go.Proofs.YtgkddhncfaeidaaGreat
