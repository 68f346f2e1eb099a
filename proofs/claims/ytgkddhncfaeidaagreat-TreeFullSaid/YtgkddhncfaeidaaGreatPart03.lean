/- Squeezed: the texts as they are written lie in wip/tpl. -/
import Derived.Test.YtgkddhncfaeidaaGreatPart00
import Derived.StillTail
import Derived.RangeFuncNested
import Derived.RangeFuncBound
import Derived.RangeFuncCalls
import Derived.RangeFuncLeaves
import Derived.RangeFuncBox
import Derived.Shelf.Abstract
import Derived.Shelf.RegionOpen
import Derived.WalkKit
import Derived.OwnWalkIn
import Derived.TacticsInMore
import Derived.LoopNIn
import Derived.LoopIn
import Derived.Test.YtgkddhncfaeidaaGreatPart02
import Derived.Deep.MidRow
set_option maxRecDepth 100000
set_option maxHeartbeats 8000000
set_option linter.unusedSimpArgs false
set_option linter.unusedVariables false
namespace Go.Proofs.YtgkddhncfaeidaaGreat
open Go.RowKit
section
variable {P:Program} {ops:Array Oper} {md:Region.Mode} {C:World→Prop}
def anyHead (P:Program) (md:Region.Mode) (ops:Array Oper) (C:World→Prop) (n:Nat) (L:Array Bool→Act→Prop):Nat→Array Bool→Act→Prop
 | 0,listed,a=>L listed a
 | f+1,listed,a =>
   Region.ready md ops listed≠[]∧∀ i ∈ Region.ready md ops listed,i<n∧qOp P ops C i (anyHead P md ops C n L f (listed.setIfInBounds i true)) a
theorem any_of_head {n g:Nat} {L:Array Bool→Act→Prop} {Q':Exit→Act→World→Prop} (hL:∀ listed a w,C w→L listed a→wpAny P md ops Q' g listed a w) :
 ∀ (f:Nat) (listed:Array Bool) (a:Act) (w:World),C w→anyHead P md ops C n L f listed a→wpAny P md ops Q' (f+g) listed a w
 | 0,listed,a,w,hw,h=>by rw [Nat.zero_add];exact hL _ _ _ hw h
 | f+1,listed,a,w,hw,h=>by
   rw [show f+1+g=(f+g)+1 by omega]
   exact ⟨fun h0=>absurd h0 h.1,fun i hi=>wpOp_of_qOp hw (fun a' w' hw' h'=>any_of_head hL f _ a' w' hw' h') (h.2 i hi).2⟩
theorem anyHead_first {n i:Nat} {oi:Oper} {v:Value} {L:Array Bool→Act→Prop} (hi:ops[i]?=some oi) (hsel:∀ (j:Nat) (o:Oper) cs b,ops[j]?=some o→o.op≠.select cs b)
 (hs:Region.sinkB md ops n=true) (hc:Region.chainB md ops n=true) (hn:n<ops.size) (hin:i<n)
 (hdone:∀ listed a,L listed a→∀ j ∈ Region.ready md ops listed,n≤j) :
 ∀ (f:Nat) (listed:Array Bool) (a:Act),HeadInv md ops n listed →
   (∀ j oj,ops[j]?=some oj→j≠i→listed.getD j true=false→(∀ e ∈ oj.after,Region.binds md e=true→e.on≠i)→oi.apart ops oj=true) →
   i ∈ Region.ready md ops listed→YieldsIn P ops C oi v a →
   anyHead P md ops C n L f (listed.setIfInBounds i true) (a.put oi.dst v)→anyHead P md ops C n L (f+1) listed a:=by
 intro f
 induction f with
 | zero =>
   intro listed a inv _ hr hy H
   have hun:=(mem_ready.1 hr).1
   refine ⟨fun h=>(by rw [h] at hr;cases hr),fun j hj=>?_⟩
   have hjn:j<n:=by
    rcases Nat.lt_or_ge j n with h | h
    ·exact h
    ·exact absurd hj (tail_waits hs hc hn inv _ i rfl hin hun j h)
   refine ⟨hjn,?_⟩
   by_cases hji:j=i
   ·subst hji;exact hy.qOp hi H
   ·have:=hdone _ _ H j (ready_mono hj hji)
    omega
 | succ f ih =>
   intro listed a inv hfree hr hy H
   have hun:=(mem_ready.1 hr).1
   refine ⟨fun h=>(by rw [h] at hr;cases hr),fun j hj=>?_⟩
   have hjn:j<n:=by
    rcases Nat.lt_or_ge j n with h | h
    ·exact h
    ·exact absurd hj (tail_waits hs hc hn inv _ i rfl hin hun j h)
   refine ⟨hjn,?_⟩
   by_cases hji:j=i
   ·subst hji;exact hy.qOp hi H
   ·have h1:=(H.2 j (ready_mono hj hji)).2
    obtain ⟨hjun,oj,hoj,hall⟩:=mem_ready.1 hj
    have hnot:∀ e ∈ oj.after,Region.binds md e=true→e.on≠i:=fun e he hb heq=>by
     have h1:=hall e he hb
     rw [heq,getD_both hun] at h1
     cases h1
    have h2:=qOp_put hoj (hfree j oj hoj hji hjun hnot) (fun cs b=>hsel i oi cs b hi) (fun cs b=>hsel j oj cs b hoj) hy h1
    have hfree':∀ k ok,ops[k]?=some ok→k≠i→(listed.setIfInBounds j true).getD k true=false →
     (∀ e ∈ ok.after,Region.binds md e=true→e.on≠i)→oi.apart ops ok=true:=fun k ok hk hki hun hno=>by
     refine hfree k ok hk hki ?_ hno
     by_cases hjk:j=k
     ·subst hjk;exact hjun
     ·rw [getD_set_ne true hjk] at hun;exact hun
    refine qOp_mono (fun a' h3=>ih (listed.setIfInBounds j true) a' (inv.set hj hjn) hfree' (ready_mono hr (Ne.symm hji)) h3.1 ?_) h2
    rw [Array.setIfInBounds_comm _ _ hji]
    exact h3.2
theorem anyHead_lex {n g:Nat} {Lq:Act→Prop} (hsel:Region.noSelect ops=true) (hs:Region.sinkB md ops n=true) (hc:Region.chainB md ops n=true) (hn:n<ops.size) :
 ∀ (l:List Oper) (k:Nat) (listed:Array Bool) (a:Act),(∀ j,j<l.length→l[j]?=ops[k+j]?)→k+l.length=n→HeadInv md ops n listed →
 Region.lexHead md ops g l.length k listed=true→wpQuiet P ops C Lq l a →
 anyHead P md ops C n (fun listed' a'=>Region.seqB md ops g n listed'=true∧Lq a') l.length listed a
 | [],k,listed,a,_,hk,_,hB,h=>by
   have:k=n:=by simpa using hk
   subst this
   exact ⟨by simpa [Region.lexHead] using hB,h⟩
 | o :: l,k,listed,a,hl,hk,inv,hB,h=>by
   have h0:ops[k]?=some o:=by simpa using (hl 0 (by simp)).symm
   simp only [List.length_cons,Region.lexHead,Bool.and_eq_true] at hB
   obtain ⟨⟨hr,hf⟩,hB'⟩:=hB
   have hkn:k<n:=by simp only [List.length_cons] at hk;omega
   have hr':k ∈ Region.ready md ops listed:=by simpa using hr
   have hst:qOp P ops C k (wpQuiet P ops C Lq l) a:=by unfold qOp;simp only [h0];exact h
   obtain ⟨v,hy,hK⟩:=yieldsIn_of_qOp h0 hst
   exact anyHead_first h0 (Region.noSelect_spec hsel) hs hc hn hkn (fun listed' a' hL=>seqB_ready hL.1) l.length listed a inv (Region.free_spec h0 hf) hr' hy
    (anyHead_lex hsel hs hc hn l (k+1) _ _ (fun j hj=>by have:=hl (j+1) (by simp;omega);simpa [Nat.add_assoc,Nat.add_comm 1 j] using this) (by simp only [List.length_cons] at hk;omega) (inv.set hr' hkn) hB' hK)
end
theorem region_below_tail {P:Program} {id:Nat} {Q:Exit→Act→World→Prop} {a:Act} {w:World} {l:List Oper} (n B:Nat) (w0:World) (hb:Below B w0 w)
 (hm:P.follows .mixedOrders=true) (hB:Region.lexTailB .any l.toArray n=true)
 (h:wpQuiet P l.toArray (fun w'=>∃ x:SubW B w0,w'=x.at_) (fun a'=>∀ w',(∃ x:SubW B w0,w'=x.at_)→wpList P l.toArray Q (l.drop n) a' w') (l.take n) a):(Code.region id l.toArray true).wp P Q a w:=by
 simp only [Region.lexTailB,Bool.and_eq_true,decide_eq_true_eq] at hB
 obtain ⟨⟨⟨⟨hsel,hn⟩,hs⟩,hc⟩,hlex⟩:=hB
 have hn':n<l.length:=by simpa using hn
 have htl:(l.take n).length=n:=by simp;omega
 have hdl:(l.drop n).length=l.toArray.size - n:=by simp
 have inv0:HeadInv .any l.toArray n (Array.replicate l.toArray.size false) :=
  ⟨by simp,fun j oj _ hl=>(by rw [getD_replicate_false] at hl;cases hl),fun t _ ht=>getD_in (by simpa using ht) (getD_replicate_false _ _)⟩
 have H:=anyHead_lex (md:=.any) (g:=l.toArray.size - n) hsel hs hc hn (l.take n) 0 _ a (fun j hj=>by
  have hj':j<n:=by rw [htl] at hj;exact hj
  simp [hj']) (by simpa using htl) inv0 (by rw [htl];exact hlex) h
 refine wp_region_any hm ?_
 have:=any_of_head (Q':=Q) (g:=l.toArray.size - n) (fun listed a' w' hw hL=>by
  have:=wpAny_of_seq (md:=.any) (Q':=Q) (l.drop n) n listed a' w' (fun j=>by simp [List.getElem?_drop]) (by rw [hdl];exact hL.1) (hL.2 w' hw)
  rwa [hdl] at this) _ _ _ { w with drawn:=w.drawn+1 } ⟨⟨_,below_drewN hb 1⟩,rfl⟩ H
 rw [htl,show n+(l.toArray.size - n)=l.toArray.size by omega] at this
 exact this
end Go.Proofs.YtgkddhncfaeidaaGreat
namespace Go.Proofs.YtgkddhncfaeidaaGreat
open Go.RowKit Go.Shelf
attribute [local go_sem] Oper.semAt_some
def chs (m len k:Nat):List (Nat × Nat):=(List.range k).map fun i=>(m*i,min m (len - m*i))
theorem chs_succ (m len k:Nat):chs m len (k+1)=chs m len k ++ [(m*k,min m (len - m*k))]:=by simp [chs,List.range_succ]
theorem chs_length (m len k:Nat):(chs m len k).length=k:=by simp [chs]
def encCh (b off:Nat) (x:Nat × Nat):Array Value:=#[.slice (some ⟨b,off+x.1*8,none⟩) x.2 x.2]
def KpCh (n₀ Bs Bn:Nat) (sv:Value) (W W':World):Prop:=Below n₀ W W'∧(Boxed W Bs 29 sv→Boxed W' Bs 29 sv)∧(Boxed W Bn 3 (.int .i64 7)→Boxed W' Bn 3 (.int .i64 7))
theorem KpCh.trans {n₀ Bs Bn:Nat} {sv:Value} {A B C:World} (h:KpCh n₀ Bs Bn sv A B) (k:KpCh n₀ Bs Bn sv B C):KpCh n₀ Bs Bn sv A C:=⟨h.1.trans k.1,fun x=>k.2.1 (h.2.1 x),fun x=>k.2.2 (h.2.2 x)⟩
theorem abides_below {β:Type} {J:β→World→Prop} {B:Nat} (h:AbidesFrom B J) {s:β} {W W':World} (hs:J s W) (hb:Below W.heap.size W W'):J s W' :=
 h s W W' none hs ⟨hb.os,hb.tape,hb.output,hb.size,fun k hk _=>hb.block k hk⟩ (fun r e=>by cases e)
theorem boxed_below {W W':World} {B:Nat} {t:TypeId} {v:Value} (h:Boxed W B t v) (hb:Below W.heap.size W W'):Boxed W' B t v:=(hb.block B h.lt).trans h
theorem chunk1_in (n:Nat) (hn:1≤n) (l Bs Bn n₀ b off len cap:Nat) (A:Option Addr) (hA:0<len→A=some ⟨b,off,none⟩) (hlc:len≤cap) (hm:len≤100000000) (hcm:cap≤maxLen) (J Jx:List (Nat × Nat)→World→Prop) (B0:Nat) (hJ:AbidesFrom B0 J)
 (hY:∀ pre x W,J pre W→pre.length<(len+6) / 7→YieldAt Fence.wide (n - 1) Tryz.prog l (encCh b off x) W fun e W' =>
  (e=.returned (.bool true)∧J (pre ++ [x]) W'∧KpCh n₀ Bs Bn (.slice A len cap) W W')∨(e=.returned (.bool false)∧Jx (pre ++ [x]) W'))
 (W:World) (hBs:Boxed W Bs 29 (.slice A len cap)) (hBn:Boxed W Bn 3 (.int .i64 7)) (h0:J [] W) :
 CallsIn Fence.wide n Tryz.prog 82 #[.func (.yield l) #[] #[],.pointer (some ⟨Bs,0,none⟩),.pointer (some ⟨Bn,0,none⟩)] W fun e W'=>(∃ v,e=.returned v) ∧
  ((∃ ys,ys=chs 7 len ((len+6) / 7)∧J ys W')∨(∃ pre,(∃ k,k≤(len+6) / 7∧pre=chs 7 len k)∧Jx pre W')):=by
 have hro:Fence.wide.round=none:=rfl
 refine callsIn_of_wp Tryz.func82 rfl trivial ?_ hro
 simp only [Tryz.ntmps82,List.size_toArray,List.length_cons,List.length_nil,Nat.reduceAdd,Nat.reduceSub,Array.replicate_succ,Array.replicate_zero,List.push_toArray,List.append_toArray,List.nil_append,List.cons_append]
 gi_wp2
 gi_loopw [4] (fun i wr=>∃ k:Nat,k≤(len+6) / 7∧i=.int .i64 ((7*k:Nat):Int)∧Hid (J (chs 7 len k) wr∧Boxed wr Bs 29 (.slice A len cap)∧Boxed wr Bn 3 (.int .i64 7)))
  (fun i _=>len+7 - (intOf i).toNat)
 case atStart=>exact ⟨0,Nat.zero_le _,rfl,Lib.hid ⟨h0,hBs,hBn⟩⟩
 case round =>
  obtain ⟨k,hk,rfl,HK⟩:=hrel
  have c1:=HK.out.2.1.cell
  have c2:=HK.out.2.2.cell
  by_cases hlt:7*k<len
  ·obtain rfl:=hA (by omega)
   obtain ⟨q,hq⟩:∃ q,min 7 (len - 7*k)=q:=⟨_,rfl⟩
   have hlti:decide (((7*k:Nat):Int)<(len:Int))=true:=by simp;omega
   gi_wp2
   refine wpIn_wide.2 ?_
   refine region_below wr.heap.size wr (Below.refl _ _) (by kernel_rfl) (by kernel_rfl) ?_
   have g1:∀ y:SubW wr.heap.size wr,y.at_.cell? ⟨Bs,0,none⟩=some (.slice (some ⟨b,off,none⟩) len cap):=fun y=>(boxed_below HK.out.2.1 y.ok_).cell
   have g2:∀ y:SubW wr.heap.size wr,y.at_.cell? ⟨Bn,0,none⟩=some (.int .i64 7):=fun y=>(boxed_below HK.out.2.2 y.ok_).cell
   have hmq:min (7:Int) ((len - 7*k:Nat):Int)=(q:Int):=by omega
   have hq1:7*k+q≤cap:=by omega
   repeat (go_big_quiet_step (fail))
   refine wpQuiet_nil ?_
   rintro w' ⟨y,rfl⟩
   have HY:=Lib.hid y.ok_
   obtain ⟨fn,tmps,assign,body,hy,hR⟩:=hY (chs 7 len k) (7*k,q) y.at_ (abides_below hJ HK.out.1 y.ok_) (by rw [chs_length];omega)
   dsimp only [encCh] at hy
   have c3:=g1 y
   clear g1 g2
   have HBs:=Lib.hid (boxed_below HK.out.2.1 HY.out)
   have HBn:=Lib.hid (boxed_below HK.out.2.2 HY.out)
   have HS:Hid (chs 7 len k ++ [(7*k,q)]=chs 7 len (k+1)):=Lib.hid (by rw [chs_succ,hq])
   gi_wp2
   refine hR.mono ?_
   rintro e W3 (⟨rfl,hJ3,hk3⟩ | ⟨rfl,hJx3⟩)
   ·have HB3:=Lib.hid (hk3.2.1 HBs.out)
    have HN3:=Lib.hid (hk3.2.2 HBn.out)
    have HJ3:=Lib.hid hJ3
    have c4:=HN3.out.cell
    clear hJ3 hk3 c1 c2 c3
    have hw7:wrap64 (((7*k:Nat):Int)+7)=((7*(k+1):Nat):Int):=by unfold wrap64;omega
    gi_wp2
    go_roundw
    case rel=>exact ⟨k+1,by omega,rfl,Lib.hid ⟨by rw [← HS.out];exact HJ3.out,HB3.out,HN3.out⟩⟩
    case measure=>simp only [intOf];omega
   ·gi_wp2
    refine bodyPost_ret (results_none rfl _ _ _) rfl ?_
    exact ⟨⟨_,rfl⟩,.inr ⟨_,⟨k+1,by omega,HS.out⟩,hJx3⟩⟩
  ·have hlti:decide (((7*k:Nat):Int)<(len:Int))=false:=by simp;omega
   have hke:k=(len+6) / 7:=by omega
   gi_wp2
   go_end0
   exact ⟨⟨_,rfl⟩,.inl ⟨_,by rw [← hke],HK.out.1⟩⟩
theorem chunk_in (n:Nat) (A:Option Addr) (len cap:Nat) (w:World) :
 CallsIn Fence.wide n Tryz.prog 55 #[.slice A len cap,.int .i64 7] w fun e w'=>e=.returned (.func (.func 82) #[] #[.pointer (some ⟨w.heap.size,0,none⟩),.pointer (some ⟨w.heap.size+1,0,none⟩)])∧w'=(w.alloc (.cells #[.slice A len cap] 29)).alloc (.cells #[.int .i64 7] 3):=by
 refine callsIn_of_wp Tryz.func55 rfl trivial ?_ rfl
 simp only [Tryz.ntmps55,List.size_toArray,List.length_cons,List.length_nil,Nat.reduceAdd,Nat.reduceSub,Array.replicate_succ,Array.replicate_zero,List.push_toArray,List.append_toArray,List.nil_append,List.cons_append]
 gi_wp2
 go_ret
 exact ⟨rfl,rfl⟩
theorem chunk_stops (n:Nat) (hn:1≤n) (Bs Bn n₀ b off len cap:Nat) (A:Option Addr) (hA:0<len→A=some ⟨b,off,none⟩) (hlc:len≤cap) (hm:len≤100000000) (hcm:cap≤maxLen) (w:World)
 (hBs:Boxed w Bs 29 (.slice A len cap)) (hBn:Boxed w Bn 3 (.int .i64 7)) :
 SeqStopsK Fence.wide n Tryz.prog 82 #[.pointer (some ⟨Bs,0,none⟩),.pointer (some ⟨Bn,0,none⟩)] (encCh b off) (KpCh n₀ Bs Bn (.slice A len cap)) (fun ys=>ys=chs 7 len ((len+6) / 7))
  (fun pre=>∃ k,k≤(len+6) / 7∧pre=chs 7 len k) ((len+6) / 7) w:=fun l J Jx W hW hJ _ hY h0 =>
 chunk1_in n hn l Bs Bn n₀ b off len cap A hA hlc hm hcm J Jx _ hJ hY W (boxed_below hBs hW) (boxed_below hBn hW) h0
end Go.Proofs.YtgkddhncfaeidaaGreat
namespace Go.Proofs.YtgkddhncfaeidaaGreat
open Go.ChangeShapes Go.WideShapes Go.ChangeAt Go.RowKit CrcM PageM
def wn (z:Int):Nat:=(IntKind.u64.wrap z).toNat
theorem wn_eq (z:Int):IntKind.u64.wrap z=(wn z:Int):=by
 unfold wn
 have:0≤IntKind.u64.wrap z:=by rw [IntKind.wrap_u64];omega
 omega
theorem wn_lt (z:Int):wn z<18446744073709551616:=by
 unfold wn
 have:IntKind.u64.wrap z<18446744073709551616:=by rw [IntKind.wrap_u64];omega
 have:0≤IntKind.u64.wrap z:=by rw [IntKind.wrap_u64];omega
 omega
def kyB (k:KeyD):List UInt8:=be (wn k.se) 4 ++ be (wn k.st) 8
def enB (e:EntD):List UInt8:=kyB e.key ++ be (wn e.en) 8 ++ be (wn e.ad) 2 ++ be (wn e.le) 2 ++ be (wn e.cn) 1 ++ be (wn e.co) 1 ++ be (wn e.cr) 4
theorem length_kyB (k:KeyD):(kyB k).length=12:=by simp [kyB,length_be]
theorem length_enB (e:EntD):(enB e).length=30:=by simp [enB,length_be,length_kyB]
def BoxKept (w w':World):Prop:=∀ (g:Nat) (cs:Array Value) (T:TypeId),T≠5→w.heap[g]?=some (.cells cs T (0,0))→w'.heap[g]?=some (.cells cs T (0,0))
theorem BoxKept.trans {a b c:World} (h:BoxKept a b) (h2:BoxKept b c):BoxKept a c:=fun g cs T hT h0=>h2 g cs T hT (h g cs T hT h0)
theorem BoxKept.of_below {w w':World} (h:Below w.heap.size w w'):BoxKept w w':=fun g cs T _ h0=>(h.block g (Array.getElem?_eq_some_iff.1 h0).1).trans h0
theorem BoxKept.of_grown {w w':World} {B:Nat} {v:Value} {xs:List UInt8} (ho:OwnS w B v 5 xs) (hg:w.grownBy w' v.ownBlock):BoxKept w w':=fun g cs T hT h0 =>
 (hg.block g (Array.getElem?_eq_some_iff.1 h0).1 (fun e=>by
  rcases ho.2 with ⟨hv,_⟩ | ⟨g',cap,cur,hv,_,hh,_⟩
  ·rw [hv] at e;cases e
  ·rw [hv] at e
   injection e with e
   subst e
   rw [hh] at h0
   injection h0 with h0
   injection h0 with _ h0
   exact hT h0.symm)).trans h0
theorem putHigh_b (B len:Nat) (A:Option Addr) (c:Nat) (xs:List UInt8) (w:World) (hlen:xs.length=len) (ho:OwnS w B (.slice A len c) 5 xs) (hB:B≤w.heap.size) (z:Int) (s:Nat) (hz:z=(s:Int)) (hs:s≤8) (n:Nat) (hn:n<18446744073709551616) (hl:len≤1000000) (L:Nat) (hL:L=len+s) :
 Calls Tryz.prog 116 #[.slice A len c,.int .i64 z,.int .u64 n] w fun e w'=>∃ A' c',e=.returned (.slice A' L c')∧OwnS w' B (.slice A' L c') 5 (xs ++ be n s)∧Below B w w'∧BoxKept w w':=by
 subst hL
 refine (putHigh_nd B len A c xs w hlen ho hB z s hz hs n hn hl).mono ?_
 rintro e w' ⟨A',c',rfl,h1,h2,_⟩
 exact ⟨A',c',rfl,h1,ho.belowGrown (Nat.le_refl _) hB (Below.refl _ _) h2,BoxKept.of_grown ho h2⟩
theorem putKey_b (B len:Nat) (A:Option Addr) (c:Nat) (xs:List UInt8) (w:World) (hlen:xs.length=len) (ho:OwnS w B (.slice A len c) 5 xs) (hB:B≤w.heap.size) (k:KeyD) (hl:len≤100000) (L:Nat) (hL:L=len+12) :
 Calls Tryz.prog 115 #[.slice A len c,.agg #[.int .i64 k.se,.int .i64 k.st]] w fun e w'=>∃ A' c',e=.returned (.slice A' L c')∧OwnS w' B (.slice A' L c') 5 (xs ++ kyB k)∧Below B w w'∧BoxKept w w':=by
 subst hL
 refine (putKey_nd B len A c xs w hlen ho hB k.se k.st (wn k.se) (wn k.st) (wn_eq _) (wn_eq _) (wn_lt _) (wn_lt _) hl).mono ?_
 rintro e w' ⟨A',c',rfl,h1,h2,_⟩
 rw [List.append_assoc] at h1
 exact ⟨A',c',rfl,h1,ho.belowGrown (Nat.le_refl _) hB (Below.refl _ _) h2,BoxKept.of_grown ho h2⟩
theorem putEntry_b (B len:Nat) (A:Option Addr) (c:Nat) (xs:List UInt8) (w:World) (hlen:xs.length=len) (ho:OwnS w B (.slice A len c) 5 xs) (hB:B≤w.heap.size) (e:EntD) (hl:len≤100000) (L:Nat) (hL:L=len+30) :
 Calls Tryz.prog 114 #[.slice A len c,.agg #[.int .i64 e.se,.int .i64 e.st,.int .i64 e.en,.int .i64 e.ad,.int .i64 e.le,.int .i64 e.cn,.int .i64 e.co,.int .u32 e.cr]] w fun e' w'=>∃ A' c',e'=.returned (.slice A' L c')∧OwnS w' B (.slice A' L c') 5 (xs ++ enB e)∧Below B w w'∧BoxKept w w':=by
 have HLEN:=Lib.hid hlen
 have HL:=Lib.hid hL
 obtain ⟨n_en,e_en⟩:∃ n,wn e.en=n:=⟨_,rfl⟩
 have W_en:Hid (IntKind.u64.wrap e.en=(n_en:Int)):=Lib.hid (by rw [← e_en];exact wn_eq _)
 have B_en:Hid (n_en<18446744073709551616):=Lib.hid (by rw [← e_en];exact wn_lt _)
 have E_en:=Lib.hid e_en
 obtain ⟨n_ad,e_ad⟩:∃ n,wn e.ad=n:=⟨_,rfl⟩
 have W_ad:Hid (IntKind.u64.wrap e.ad=(n_ad:Int)):=Lib.hid (by rw [← e_ad];exact wn_eq _)
 have B_ad:Hid (n_ad<18446744073709551616):=Lib.hid (by rw [← e_ad];exact wn_lt _)
 have E_ad:=Lib.hid e_ad
 obtain ⟨n_le,e_le⟩:∃ n,wn e.le=n:=⟨_,rfl⟩
 have W_le:Hid (IntKind.u64.wrap e.le=(n_le:Int)):=Lib.hid (by rw [← e_le];exact wn_eq _)
 have B_le:Hid (n_le<18446744073709551616):=Lib.hid (by rw [← e_le];exact wn_lt _)
 have E_le:=Lib.hid e_le
 obtain ⟨n_cn,e_cn⟩:∃ n,wn e.cn=n:=⟨_,rfl⟩
 have W_cn:Hid (IntKind.u64.wrap e.cn=(n_cn:Int)):=Lib.hid (by rw [← e_cn];exact wn_eq _)
 have B_cn:Hid (n_cn<18446744073709551616):=Lib.hid (by rw [← e_cn];exact wn_lt _)
 have E_cn:=Lib.hid e_cn
 obtain ⟨n_co,e_co⟩:∃ n,wn e.co=n:=⟨_,rfl⟩
 have W_co:Hid (IntKind.u64.wrap e.co=(n_co:Int)):=Lib.hid (by rw [← e_co];exact wn_eq _)
 have B_co:Hid (n_co<18446744073709551616):=Lib.hid (by rw [← e_co];exact wn_lt _)
 have E_co:=Lib.hid e_co
 obtain ⟨n_cr,e_cr⟩:∃ n,wn e.cr=n:=⟨_,rfl⟩
 have W_cr:Hid (IntKind.u64.wrap e.cr=(n_cr:Int)):=Lib.hid (by rw [← e_cr];exact wn_eq _)
 have B_cr:Hid (n_cr<18446744073709551616):=Lib.hid (by rw [← e_cr];exact wn_lt _)
 have E_cr:=Lib.hid e_cr
 obtain ⟨l1,hl1⟩:∃ l,l=len+12:=⟨_,rfl⟩
 have HL1:=Lib.hid hl1
 obtain ⟨l2,hl2⟩:∃ l,l=len+20:=⟨_,rfl⟩
 have HL2:=Lib.hid hl2
 obtain ⟨l3,hl3⟩:∃ l,l=len+22:=⟨_,rfl⟩
 have HL3:=Lib.hid hl3
 obtain ⟨l4,hl4⟩:∃ l,l=len+24:=⟨_,rfl⟩
 have HL4:=Lib.hid hl4
 obtain ⟨l5,hl5⟩:∃ l,l=len+25:=⟨_,rfl⟩
 have HL5:=Lib.hid hl5
 obtain ⟨l6,hl6⟩:∃ l,l=len+26:=⟨_,rfl⟩
 have HL6:=Lib.hid hl6
 obtain ⟨l7,hl7⟩:∃ l,l=len+30:=⟨_,rfl⟩
 have HL7:=Lib.hid hl7
 have hwal:Below B w (w.alloc (.cells #[.int .i64 e.se,.int .i64 e.st,.int .i64 e.en,.int .i64 e.ad,.int .i64 e.le,.int .i64 e.cn,.int .i64 e.co,.int .u32 e.cr] 40)):=(Below.refl _ _).alloc hB _
 have HWAL:=Lib.hid hwal
 have HBX:Hid (BoxKept w (w.alloc (.cells #[.int .i64 e.se,.int .i64 e.st,.int .i64 e.en,.int .i64 e.ad,.int .i64 e.le,.int .i64 e.cn,.int .i64 e.co,.int .u32 e.cr] 40))):=Lib.hid (BoxKept.of_below ((Below.refl _ _).alloc (Nat.le_refl _) _))
 have HO:=Lib.hid (ho.alloc (.cells #[.int .i64 e.se,.int .i64 e.st,.int .i64 e.en,.int .i64 e.ad,.int .i64 e.le,.int .i64 e.cn,.int .i64 e.co,.int .u32 e.cr] 40))
 clear hlen hL hwal ho e_en e_ad e_le e_cn e_co e_cr hl1 hl2 hl3 hl4 hl5 hl6 hl7
 go_enter Tryz.func114,Tryz.ntmps114
 go_upto_region 1 with fail
 obtain ⟨W,eW⟩:∃ W,W=w.alloc (.cells #[.int .i64 e.se,.int .i64 e.st,.int .i64 e.en,.int .i64 e.ad,.int .i64 e.le,.int .i64 e.cn,.int .i64 e.co,.int .u32 e.cr] 40):=⟨_,rfl⟩
 have hrow:W.heap[w.heap.size]?=some (.cells #[.int .i64 e.se,.int .i64 e.st,.int .i64 e.en,.int .i64 e.ad,.int .i64 e.le,.int .i64 e.cn,.int .i64 e.co,.int .u32 e.cr] 40 (0,0)):=by rw [eW];exact heap_alloc_new _ _
 rw [← eW] at HWAL HBX HO ⊢
 clear eW
 have a0:=nd_cell hrow 0 _ rfl
 have a1:=nd_cell hrow 1 _ rfl
 have HROW:=Lib.hid hrow
 clear hrow
 go_wp2_with (first
  | (go_at_call 115;refine (putKey_b B len A c xs _ HLEN.out HO.out (Nat.le_trans hB HWAL.out.size) e.key hl l1 HL1.out).mono ?_;rintro e' w1 ⟨A1,c1,rfl,ho1,hb1,hx1⟩;have HO1:=Lib.hid ho1;have HB1:=Lib.hid (HWAL.out.trans hb1);have HX1:=Lib.hid (HBX.out.trans hx1);have HR1:=Lib.hid (hx1 _ _ 40 (by decide) HROW.out);have a2:=nd_cell HR1.out 2 _ rfl;clear ho1 hb1 hx1)
  | (go_at_call 116;rw [W_en.out];refine (putHigh_b B l1 A1 c1 (xs ++ kyB e.key) _ (by simp [length_kyB,HLEN.out];have:=HL1.out;omega) HO1.out (Nat.le_trans hB HB1.out.size) 8 8 rfl (by omega) n_en B_en.out (by have:=HL1.out;omega) l2 (by have:=HL1.out;have:=HL2.out;omega)).mono ?_;rintro e' w2 ⟨A2,c2,rfl,ho2,hb2,hx2⟩;have HO2:=Lib.hid ho2;have HB2:=Lib.hid (HB1.out.trans hb2);have HX2:=Lib.hid (HX1.out.trans hx2);have HR2:=Lib.hid (hx2 _ _ 40 (by decide) HR1.out);have a3:=nd_cell HR2.out 3 _ rfl;clear ho2 hb2 hx2)
  | (go_at_call 116;rw [W_ad.out];refine (putHigh_b B l2 A2 c2 (xs ++ kyB e.key ++ be n_en 8) _ (by simp [length_be,length_kyB,HLEN.out];have:=HL2.out;omega) HO2.out (Nat.le_trans hB HB2.out.size) 2 2 rfl (by omega) n_ad B_ad.out (by have:=HL2.out;omega) l3 (by have:=HL2.out;have:=HL3.out;omega)).mono ?_;rintro e' w3 ⟨A3,c3,rfl,ho3,hb3,hx3⟩;have HO3:=Lib.hid ho3;have HB3:=Lib.hid (HB2.out.trans hb3);have HX3:=Lib.hid (HX2.out.trans hx3);have HR3:=Lib.hid (hx3 _ _ 40 (by decide) HR2.out);have a4:=nd_cell HR3.out 4 _ rfl;clear ho3 hb3 hx3)
  | (go_at_call 116;rw [W_le.out];refine (putHigh_b B l3 A3 c3 (xs ++ kyB e.key ++ be n_en 8 ++ be n_ad 2) _ (by simp [length_be,length_kyB,HLEN.out];have:=HL3.out;omega) HO3.out (Nat.le_trans hB HB3.out.size) 2 2 rfl (by omega) n_le B_le.out (by have:=HL3.out;omega) l4 (by have:=HL3.out;have:=HL4.out;omega)).mono ?_;rintro e' w4 ⟨A4,c4,rfl,ho4,hb4,hx4⟩;have HO4:=Lib.hid ho4;have HB4:=Lib.hid (HB3.out.trans hb4);have HX4:=Lib.hid (HX3.out.trans hx4);have HR4:=Lib.hid (hx4 _ _ 40 (by decide) HR3.out);have a5:=nd_cell HR4.out 5 _ rfl;clear ho4 hb4 hx4)
  | (go_at_call 116;rw [W_cn.out];refine (putHigh_b B l4 A4 c4 (xs ++ kyB e.key ++ be n_en 8 ++ be n_ad 2 ++ be n_le 2) _ (by simp [length_be,length_kyB,HLEN.out];have:=HL4.out;omega) HO4.out (Nat.le_trans hB HB4.out.size) 1 1 rfl (by omega) n_cn B_cn.out (by have:=HL4.out;omega) l5 (by have:=HL4.out;have:=HL5.out;omega)).mono ?_;rintro e' w5 ⟨A5,c5,rfl,ho5,hb5,hx5⟩;have HO5:=Lib.hid ho5;have HB5:=Lib.hid (HB4.out.trans hb5);have HX5:=Lib.hid (HX4.out.trans hx5);have HR5:=Lib.hid (hx5 _ _ 40 (by decide) HR4.out);have a6:=nd_cell HR5.out 6 _ rfl;clear ho5 hb5 hx5)
  | (go_at_call 116;rw [W_co.out];refine (putHigh_b B l5 A5 c5 (xs ++ kyB e.key ++ be n_en 8 ++ be n_ad 2 ++ be n_le 2 ++ be n_cn 1) _ (by simp [length_be,length_kyB,HLEN.out];have:=HL5.out;omega) HO5.out (Nat.le_trans hB HB5.out.size) 1 1 rfl (by omega) n_co B_co.out (by have:=HL5.out;omega) l6 (by have:=HL5.out;have:=HL6.out;omega)).mono ?_;rintro e' w6 ⟨A6,c6,rfl,ho6,hb6,hx6⟩;have HO6:=Lib.hid ho6;have HB6:=Lib.hid (HB5.out.trans hb6);have HX6:=Lib.hid (HX5.out.trans hx6);have HR6:=Lib.hid (hx6 _ _ 40 (by decide) HR5.out);have a7:=nd_cell HR6.out 7 _ rfl;clear ho6 hb6 hx6)
  | (go_at_call 116;rw [W_cr.out];refine (putHigh_b B l6 A6 c6 (xs ++ kyB e.key ++ be n_en 8 ++ be n_ad 2 ++ be n_le 2 ++ be n_cn 1 ++ be n_co 1) _ (by simp [length_be,length_kyB,HLEN.out];have:=HL6.out;omega) HO6.out (Nat.le_trans hB HB6.out.size) 4 4 rfl (by omega) n_cr B_cr.out (by have:=HL6.out;omega) l7 (by have:=HL6.out;have:=HL7.out;omega)).mono ?_;rintro e' w7 ⟨A7,c7,rfl,ho7,hb7,hx7⟩;have HO7:=Lib.hid ho7;have HB7:=Lib.hid (HB6.out.trans hb7);have HX7:=Lib.hid (HX6.out.trans hx7);have HR7:=Lib.hid (hx7 _ _ 40 (by decide) HR6.out);clear ho7 hb7 hx7))
 go_ret
 have hlL:l7=L:=by have h1:=HL.out;have h2:=HL7.out;omega
 subst hlL
 refine ⟨A7,c7,rfl,?_,HB7.out,HX7.out⟩
 have h7:=HO7.out
 rw [← E_en.out,← E_ad.out,← E_le.out,← E_cn.out,← E_co.out,← E_cr.out] at h7
 simpa [enB,List.append_assoc] using h7
theorem IsB.mkT {P:Prop} (h:P):IsB true P:=by unfold IsB;simp [h]
def NodeD.size (n:NodeD):Nat:=if n.leaf=true then n.es.length else n.ds.length
def kidB (p:KeyD × Int):List UInt8:=kyB p.1 ++ be (wn p.2) 2
def nodeB (n:NodeD):List UInt8:=UInt8.ofNat n.size :: (n.es.flatMap enB ++ (n.ks.zip n.ds).flatMap kidB)
theorem size_any (n:NodeD) (l:NdL) (w:World) :
 Calls Tryz.prog 52 #[.agg #[.bool n.leaf,.slice l.EA n.es.length l.ec,.slice l.KA n.ks.length l.kc,.slice l.DA n.ds.length l.dc]] w fun e w'=>e=.returned (.int .i64 (n.size:Int))∧Below w.heap.size w w':=by
 obtain ⟨lf,es,ks,ds⟩:=n
 obtain ⟨EA,ec,KA,kc,DA,dc⟩:=l
 dsimp only
 cases lf with
 | true =>
   go_enter Tryz.func52,Tryz.ntmps52
   go_wp2_with fail
   go_ret
   exact ⟨rfl,(Below.refl _ _).alloc (Nat.le_refl _) _⟩
 | false =>
   go_enter Tryz.func52,Tryz.ntmps52
   go_wp2_with fail
   go_ret
   exact ⟨rfl,(Below.refl _ _).alloc (Nat.le_refl _) _⟩
theorem okNode_sizes {n:NodeD} (h:okNode n):n.es.length≤7∧n.ks.length=n.ds.length∧n.ds.length≤16∧n.size≤16∧1≤n.size:=by
 unfold okNode at h
 unfold NodeD.size
 split at h
 ·obtain ⟨h1,h2,h3,h4,_⟩:=h
  rw [h1,h2,if_pos (by assumption)]
  simp
  omega
 ·obtain ⟨h1,h2,⟨h3,h4,_⟩,_⟩:=h
  rw [h1,if_neg (by assumption)]
  simp
  omega
theorem flat_take {α:Type} {f:α→List UInt8} {l:List α} {k:Nat} {x:α} (h:l[k]?=some x):(l.take (k+1)).flatMap f=(l.take k).flatMap f ++ f x:=by
 rw [List.take_add_one,h]
 simp
theorem flat_len {α:Type} {f:α→List UInt8} {m:Nat} (hf:∀ x,(f x).length=m) (l:List α):(l.flatMap f).length=m*l.length:=by
 induction l with
 | nil=>simp
 | cons a t ih=>simp [ih,hf,Nat.mul_succ,Nat.add_comm]
theorem length_kidB (p:KeyD × Int):(kidB p).length=14:=by simp [kidB,length_kyB,length_be]
theorem put_yes (n:NodeD) (l:NdL) (hn:okNode n) (w:World) (h:NodeAt w n l) (L:Nat) (hL:L=(nodeB n).length) :
 Calls Tryz.prog 74 #[.agg #[.bool n.leaf,.slice l.EA n.es.length l.ec,.slice l.KA n.ks.length l.kc,.slice l.DA n.ds.length l.dc]] w fun e w'=>∃ A c,e=.returned (.tuple #[.slice A L c,.int .i64 0])∧OwnS w' w.heap.size (.slice A L c) 5 (nodeB n)∧Below w.heap.size w w':=by
 obtain ⟨hs1,hs2,hs3,hs4,hs5⟩:=okNode_sizes hn
 have hr0:Hid (∀ w',NodeAt w' n l→Calls Tryz.prog 49 #[.agg #[.bool n.leaf,.slice l.EA n.es.length l.ec,.slice l.KA n.ks.length l.kc,.slice l.DA n.ds.length l.dc]] w' fun e w1=>e=.returned (.bool true)∧Below w'.heap.size w' w1):=Lib.hid (fun w' h'=>right_any n l true (IsB.mkT hn) w' h')
 have hz0:Hid (∀ w',Calls Tryz.prog 52 #[.agg #[.bool n.leaf,.slice l.EA n.es.length l.ec,.slice l.KA n.ks.length l.kc,.slice l.DA n.ds.length l.dc]] w' fun e w1=>e=.returned (.int .i64 (n.size:Int))∧Below w'.heap.size w' w1):=Lib.hid (fun w'=>size_any n l w')
 obtain ⟨sz,hsz⟩:∃ s,n.size=s:=⟨_,rfl⟩
 rw [hsz] at hz0 hs4 hs5
 obtain ⟨b0,hb0⟩:∃ b,UInt8.ofNat sz=b:=⟨_,rfl⟩
 have hb0n:b0.toNat=sz:=by rw [← hb0,UInt8.toNat_ofNat'];omega
 have hnb:nodeB n=b0 :: (n.es.flatMap enB ++ (n.ks.zip n.ds).flatMap kidB):=by unfold nodeB;rw [hsz,hb0]
 rw [hnb] at hL ⊢
 obtain ⟨lf,es,ks,ds⟩:=n
 obtain ⟨EA,ec,KA,kc,DA,dc⟩:=l
 dsimp only at *
 obtain ⟨ne,hne⟩:∃ x,es.length=x:=⟨_,rfl⟩
 obtain ⟨nk,hnk⟩:∃ x,ks.length=x:=⟨_,rfl⟩
 obtain ⟨nd,hnd⟩:∃ x,ds.length=x:=⟨_,rfl⟩
 rw [hne] at hs1
 rw [hnk,hnd] at hs2
 rw [hnd] at hs3
 have H:=Lib.hid h
 rw [hne,hnk,hnd] at hr0 hz0 ⊢
 have HNE:=Lib.hid hne
 have HNK:=Lib.hid hnk
 have HND:=Lib.hid hnd
 have HL:=Lib.hid hL
 have HS2:=Lib.hid hs2
 have HB0N:=Lib.hid hb0n
 obtain ⟨W,eW⟩:∃ W,W=w.alloc (.cells #[.bool lf,.slice EA ne ec,.slice KA nk kc,.slice DA nd dc] 86):=⟨_,rfl⟩
 have hrow:W.heap[w.heap.size]?=some (.cells #[.bool lf,.slice EA ne ec,.slice KA nk kc,.slice DA nd dc] 86 (0,0)):=by rw [eW];exact heap_alloc_new _ _
 have hbel:Below w.heap.size w W:=by rw [eW];exact (Below.refl _ _).alloc (Nat.le_refl _) _
 have EW:=Lib.hid eW.symm
 have HB:=Lib.hid hbel
 have HROW:=Lib.hid hrow
 have hwu:IntKind.u8.wrap (sz:Int)=(b0.toNat:Int):=by rw [hb0n,IntKind.wrap_u8];omega
 clear h hne hnk hnd eW hrow hbel hL hsz hb0 hb0n hnb hs2 hn
 go_enter Tryz.func74,Tryz.ntmps74
 go_upto_region 1 with fail
 rw [EW.out]
 go_upto_region 3 with (first
  | (refine wpList_load_row rfl 86 (.tmp 1) rfl w.heap.size rfl 86 _ (0,0) _ HROW.out Tryz.underlying86 rfl (by kernel_rfl) ?_)
  | (go_at_call 49;refine (hr0.out _ (H.out.below HB.out)).mono ?_;rintro e w1 ⟨rfl,hb1⟩;have HB1:=Lib.hid hb1;have HR1:=Lib.hid ((hb1.block w.heap.size (Array.getElem?_eq_some_iff.1 HROW.out).1).trans HROW.out);clear hb1))
 go_upto_region 4 with (first
  | (refine wpList_load_row rfl 86 (.tmp 1) rfl w.heap.size rfl 86 _ (0,0) _ HR1.out Tryz.underlying86 rfl (by kernel_rfl) ?_)
  | (go_at_call 52;refine (hz0.out _).mono ?_;rintro e w2 ⟨rfl,hb2⟩;have HB2:=Lib.hid hb2;have HR2:=Lib.hid ((hb2.block w.heap.size (Array.getElem?_eq_some_iff.1 HR1.out).1).trans HR1.out);clear hb2))
 have hbw:Below w.heap.size w w2:=HB.out.trans ((HB1.out.trans (HB2.out.mono HB1.out.size)).mono HB.out.size)
 have HBW:=Lib.hid hbw
 obtain ⟨B,hBe⟩:∃ B,B=w2.heap.size:=⟨_,rfl⟩
 obtain ⟨W3,eW3⟩:∃ W3,W3=w2.alloc (.cells #[.int .u8 (b0.toNat:Int)] 5):=⟨_,rfl⟩
 have hown:OwnS W3 B (.slice (some ⟨B,0,none⟩) 1 1) 5 [b0]:=by rw [eW3,hBe];exact OwnS.new w2 5 [b0] w2.heap.size (Nat.le_refl _) (by simp [maxLen])
 have hb3:Below B w2 W3:=by rw [eW3];exact (Below.refl _ _).alloc (by omega) _
 rw [← eW3,← hBe]
 have HOWN:=Lib.hid hown
 have HB3:=Lib.hid hb3
 have HBE:=Lib.hid hBe
 have hwB:w.heap.size<B:=by rw [hBe];exact (Array.getElem?_eq_some_iff.1 HR2.out).1
 have HWB:=Lib.hid hwB
 clear hown hb3 hBe eW3 hwB hbw
 have HX:Hid (∀ W',Below B w2 W'→W'.heap[w.heap.size]?=some (.cells #[.bool lf,.slice EA ne ec,.slice KA nk kc,.slice DA nd dc] 86 (0,0))):=Lib.hid (fun W' hb=>(hb.block _ HWB.out).trans HR2.out)
 have k1:=nd_cell (HX.out _ HB3.out) 1 _ rfl
 go_upto_region 5 with fail
 clear k1
 go_loopw [4,19] (fun b i wr=>∃ (k:Nat) (A:Option Addr) (c:Nat),k≤ne∧i=.int .i64 k∧b=.slice A (1+30*k) c∧Hid (OwnS wr B (.slice A (1+30*k) c) 5 (b0 :: (es.take k).flatMap enB))∧Hid (Below B w2 wr)) (fun _ i _=>ne - (intOf i).toNat)
 case atStart=>exact ⟨0,_,1,by omega,rfl,rfl,by simpa using HOWN,HB3⟩
 case round =>
  obtain ⟨k,A,c,hk,rfl,rfl,HO,HBR⟩:=hrel
  by_cases hlt:k<ne
  ·obtain ⟨e,he⟩:∃ e,es[k]?=some e:=⟨_,List.getElem?_eq_getElem (by rw [HNE.out];exact hlt)⟩
   have hwr:Below w.heap.size w wr:=HBW.out.trans (HBR.out.mono (by have:=HWB.out;omega))
   obtain ⟨b,off,rfl,hcell⟩:=(H.out.below hwr).e (by intro e;have:=HNE.out;dsimp only at e;rw [e] at this;simp at this;omega)
   obtain ⟨c0,c1,c2,c3,c4,c5,c6,c7⟩:=hcell k e he
   have HE:=Lib.hid he
   have hBs:B≤wr.heap.size:=by rw [HBE.out];exact HBR.out.size
   have HBS:=Lib.hid hBs
   clear hcell he hwr hBs
   obtain ⟨ll,hll⟩:∃ ll,ll=1+30*k:=⟨_,rfl⟩
   rw [← hll] at HO ⊢
   have HLL:=Lib.hid hll
   clear hll
   go_upto_region 7 with fail
   go_wp2_with (go_at_call 114;refine (putEntry_b B ll A c _ _ (by rw [HLL.out];simp [flat_len length_enB];have:=HNE.out;omega) (HO.out.alloc _) (by simp;have:=HBS.out;omega) e (by have:=HLL.out;omega) (1+30*(k+1)) (by have:=HLL.out;omega)).mono ?_;rintro e' w5 ⟨A5,c5,rfl,ho5,hb5,-⟩;have HO5:=Lib.hid ho5;have HB5:=Lib.hid hb5;clear ho5 hb5)
   go_roundw
   case rel=>exact ⟨k+1,A5,c5,by omega,by go_num,rfl,Lib.hid (by rw [flat_take HE.out];simpa using HO5.out),Lib.hid ((HBR.out.alloc (by have:=HBS.out;omega) _).trans HB5.out)⟩
   case measure=>first | (simp [intOf];done) | (simp [intOf];omega)
  ·obtain rfl:k=ne:=by omega
   have hL0:∃ L0,L0=1+30*k:=⟨_,rfl⟩
   obtain ⟨L0,hL0⟩:=hL0
   rw [← hL0] at HO ⊢
   have htk:es.take k=es:=List.take_of_length_le (by have:=HNE.out;omega)
   rw [htk] at HO
   have HL0:=Lib.hid hL0
   obtain ⟨pre,hpre⟩:∃ p,p=b0 :: es.flatMap enB:=⟨_,rfl⟩
   rw [← hpre] at HO
   have HPRE:=Lib.hid hpre
   have hplen:pre.length=L0:=by rw [hpre,hL0];simp [flat_len length_enB];have:=HNE.out;omega
   have HPL:=Lib.hid hplen
   obtain ⟨W0,rfl⟩:∃ W0,W0=wr:=⟨_,rfl⟩
   have k3:=nd_cell (HX.out _ HBR.out) 3 _ rfl
   clear hL0 htk hpre hplen
   have hd1:decide ((k:Int)<(k:Int))=false:=by simp
   go_upto_region 10 with fail
   clear k3
   go_loopw [4,30] (fun b i wr=>∃ (j:Nat) (A:Option Addr) (c:Nat),j≤nd∧i=.int .i64 j∧b=.slice A (L0+14*j) c∧Hid (OwnS wr B (.slice A (L0+14*j) c) 5 (pre ++ ((ks.zip ds).take j).flatMap kidB))∧Hid (Below B w2 wr)) (fun _ i _=>nd - (intOf i).toNat)
   case atStart=>exact ⟨0,_,c,by omega,rfl,rfl,by simpa using HO,HBR⟩
   case round =>
    clear HO HBR
    obtain ⟨j,A,c,hj,rfl,rfl,HO,HBR⟩:=hrel
    by_cases hlt2:j<nd
    ·obtain ⟨e,he⟩:∃ e,ks[j]?=some e:=⟨_,List.getElem?_eq_getElem (by have:=HNK.out;have:=HS2.out;omega)⟩
     obtain ⟨z,hz⟩:∃ z,ds[j]?=some z:=⟨_,List.getElem?_eq_getElem (by have:=HND.out;omega)⟩
     have hzip:(ks.zip ds)[j]?=some (e,z):=by rw [List.getElem?_zip_eq_some];exact ⟨he,hz⟩
     have hjk:j<nk:=by have:=HS2.out;omega
     have hwr:Below w.heap.size w wr:=HBW.out.trans (HBR.out.mono (by have:=HWB.out;omega))
     obtain ⟨bk,ok,rfl,hck⟩:=(H.out.below hwr).k (by intro e';have h1:=HNK.out;dsimp only at e';rw [e'] at h1;simp at h1;omega)
     obtain ⟨bd,od,rfl,hcd⟩:=(H.out.below hwr).d (by intro e';have h1:=HND.out;dsimp only at e';rw [e'] at h1;simp at h1;omega)
     obtain ⟨c0,c1⟩:=hck j e he
     have c2:=hcd j z hz
     have k2:=nd_cell (HX.out _ HBR.out) 2 _ rfl
     have hBs:B≤wr.heap.size:=by rw [HBE.out];exact HBR.out.size
     have HBS:=Lib.hid hBs
     have HZIP:=Lib.hid hzip
     obtain ⟨ll,hll⟩:∃ ll,ll=L0+14*j:=⟨_,rfl⟩
     rw [← hll] at HO ⊢
     obtain ⟨lm,hlm⟩:∃ lm,lm=ll+12:=⟨_,rfl⟩
     have HLL:=Lib.hid hll
     have HLM:=Lib.hid hlm
     have HW1:Hid (IntKind.u64.wrap z=(wn z:Int)):=Lib.hid (wn_eq z)
     clear hck hcd he hz hzip hwr hBs hll hlm
     go_wp2_with (first
      | (go_at_call 115;refine (putKey_b B ll A c _ _ (by rw [HLL.out,List.length_append,HPL.out,flat_len length_kidB];simp;have:=HND.out;have:=HNK.out;have:=HS2.out;omega) HO.out HBS.out e (by have:=HLL.out;have:=HL0.out;omega) lm HLM.out).mono ?_;rintro e' w5 ⟨A5,c5,rfl,ho5,hb5,-⟩;have HO5:=Lib.hid ho5;have HB5:=Lib.hid hb5;clear ho5 hb5)
      | (go_at_call 116;rw [HW1.out];refine (putHigh_b B lm A5 c5 _ _ (by rw [HLM.out,HLL.out,List.length_append,List.length_append,HPL.out,flat_len length_kidB,length_kyB];simp;have:=HND.out;have:=HNK.out;have:=HS2.out;omega) HO5.out (Nat.le_trans HBS.out HB5.out.size) 2 2 rfl (by omega) (wn z) (wn_lt z) (by have:=HLM.out;have:=HLL.out;have:=HL0.out;omega) (L0+14*(j+1)) (by have:=HLM.out;have:=HLL.out;omega)).mono ?_;rintro e' w6 ⟨A6,c6,rfl,ho6,hb6,-⟩;have HO6:=Lib.hid ho6;have HB6:=Lib.hid hb6;clear ho6 hb6))
     go_roundw
     case rel=>exact ⟨j+1,A6,c6,by omega,by go_num,rfl,Lib.hid (by rw [flat_take HZIP.out];simpa [kidB] using HO6.out),Lib.hid ((HBR.out.trans HB5.out).trans HB6.out)⟩
     case measure=>first | (simp [intOf];done) | (simp [intOf];omega)
    ·obtain rfl:j=nd:=by omega
     have hlen:L0+14*j=L:=by rw [HL.out,List.length_cons,List.length_append,flat_len length_enB,flat_len length_kidB,HL0.out];simp;have:=HND.out;have:=HNK.out;have:=HS2.out;have:=HNE.out;omega
     have htk:(ks.zip ds).take j=ks.zip ds:=List.take_of_length_le (by simp;have:=HND.out;omega)
     rw [htk,HPRE.out] at HO
     rw [hlen] at HO ⊢
     have HO2:Hid (OwnS wr w.heap.size (.slice A L c) 5 (b0 :: (es.flatMap enB ++ (ks.zip ds).flatMap kidB))):=Lib.hid (by simpa using HO.out.mono (by have:=HWB.out;omega))
     clear HO hlen htk
     go_wp2_with fail
     go_ret2
     exact ⟨A,c,rfl,HO2.out,HBW.out.trans (HBR.out.mono (by have:=HWB.out;omega))⟩
end Go.Proofs.YtgkddhncfaeidaaGreat
