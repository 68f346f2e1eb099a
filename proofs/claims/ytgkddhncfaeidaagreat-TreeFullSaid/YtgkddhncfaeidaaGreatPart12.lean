/- Squeezed: the texts as they are written lie in wip/tpl. -/
import Derived.Test.YtgkddhncfaeidaaGreatPart04
import Derived.Test.YtgkddhncfaeidaaGreatPart03
import Derived.Test.YtgkddhncfaeidaaGreatNjS
set_option linter.unusedSimpArgs false
set_option linter.unusedVariables false
namespace Go.Proofs.YtgkddhncfaeidaaGreat
open Go.RowKit
section
variable {P:Program} {ops:Array Oper} {md:Region.Mode} {S:World→Prop}
def anyHT (P:Program) (md:Region.Mode) (ops:Array Oper) (Q:Exit→Act→World→Prop) (S:World→Prop) (n:Nat) (L:Array Bool→Act→World→Prop):Nat→Array Bool→Act→World→Prop
 | 0,listed,a,w=>L listed a w
 | f+1,listed,a,w =>
   Region.ready md ops listed≠[]∧∀ i ∈ Region.ready md ops listed,i<n∧wpOp P ops Q i (fun a' w'=>S w'∧anyHT P md ops Q S n L f (listed.setIfInBounds i true) a' w') a w
theorem any_of_HT {n g:Nat} {L:Array Bool→Act→World→Prop} {Q:Exit→Act→World→Prop} (hL:∀ listed a w,L listed a w→wpAny P md ops Q g listed a w) :
 ∀ (f:Nat) (listed:Array Bool) (a:Act) (w:World),anyHT P md ops Q S n L f listed a w→wpAny P md ops Q (f+g) listed a w
 | 0,listed,a,w,h=>by rw [Nat.zero_add];exact hL _ _ _ h
 | f+1,listed,a,w,h=>by
   rw [show f+1+g=(f+g)+1 by omega]
   exact ⟨fun h0=>absurd h0 h.1,fun i hi=>wpOp_mono (fun a' w' h'=>any_of_HT hL f _ a' w' h'.2) (h.2 i hi).2⟩
theorem anyHT_first {n i:Nat} {oi:Oper} {v:Value} {L:Array Bool→Act→World→Prop} {Q:Exit→Act→World→Prop} (hi:ops[i]?=some oi) (hsel:∀ (j:Nat) (o:Oper) cs b,ops[j]?=some o→o.op≠.select cs b)
 (hQ:∀ c a w,Q (.panic c) (a.put oi.dst v) w→Q (.panic c) a w)
 (hs:Region.sinkB md ops n=true) (hc:Region.chainB md ops n=true) (hn:n<ops.size) (hin:i<n)
 (hdone:∀ listed a w,L listed a w→∀ j ∈ Region.ready md ops listed,n≤j) :
 ∀ (f:Nat) (listed:Array Bool) (a:Act) (w:World),HeadInv md ops n listed →
   (∀ j oj,ops[j]?=some oj→j≠i→listed.getD j true=false→(∀ e ∈ oj.after,Region.binds md e=true→e.on≠i)→oi.apart ops oj=true) →
   i ∈ Region.ready md ops listed→YieldsIf P ops S oi v a→S w →
   anyHT P md ops Q S n L f (listed.setIfInBounds i true) (a.put oi.dst v) w→anyHT P md ops Q S n L (f+1) listed a w:=by
 intro f
 induction f with
 | zero =>
   intro listed a w inv _ hr hy hS H
   have hun:=(mem_ready.1 hr).1
   refine ⟨fun h=>(by rw [h] at hr;cases hr),fun j hj=>?_⟩
   have hjn:j<n:=by
    rcases Nat.lt_or_ge j n with h | h
    ·exact h
    ·exact absurd hj (tail_waits hs hc hn inv _ i rfl hin hun j h)
   refine ⟨hjn,?_⟩
   by_cases hji:j=i
   ·subst hji;exact hy.wpOp hi hS ⟨hS,H⟩
   ·have:=hdone _ _ _ H j (ready_mono hj hji)
    omega
 | succ f ih =>
   intro listed a w inv hfree hr hy hS H
   have hun:=(mem_ready.1 hr).1
   refine ⟨fun h=>(by rw [h] at hr;cases hr),fun j hj=>?_⟩
   have hjn:j<n:=by
    rcases Nat.lt_or_ge j n with h | h
    ·exact h
    ·exact absurd hj (tail_waits hs hc hn inv _ i rfl hin hun j h)
   refine ⟨hjn,?_⟩
   by_cases hji:j=i
   ·subst hji;exact hy.wpOp hi hS ⟨hS,H⟩
   ·have h1:=(H.2 j (ready_mono hj hji)).2
    obtain ⟨hjun,oj,hoj,hall⟩:=mem_ready.1 hj
    have hnot:∀ e ∈ oj.after,Region.binds md e=true→e.on≠i:=fun e he hb heq=>by
     have h1:=hall e he hb
     rw [heq,getD_both hun] at h1
     cases h1
    have h2:=wpOp_putIf hoj (hfree j oj hoj hji hjun hnot) (fun cs b=>hsel i oi cs b hi) (fun cs b=>hsel j oj cs b hoj) hQ hy h1
    have hfree':∀ k ok,ops[k]?=some ok→k≠i→(listed.setIfInBounds j true).getD k true=false →
     (∀ e ∈ ok.after,Region.binds md e=true→e.on≠i)→oi.apart ops ok=true:=fun k ok hk hki hun hno=>by
     refine hfree k ok hk hki ?_ hno
     by_cases hjk:j=k
     ·subst hjk;exact hjun
     ·rw [getD_set_ne true hjk] at hun;exact hun
    refine wpOp_mono (fun a' w' h3=>⟨h3.2.1,ih (listed.setIfInBounds j true) a' w' (inv.set hj hjn) hfree' (ready_mono hr (Ne.symm hji)) h3.1 h3.2.1 ?_⟩) h2
    rw [Array.setIfInBounds_comm _ _ hji]
    exact h3.2.2
theorem softsT {n:Nat} {Q:Exit→Act→World→Prop} {K:Act→Prop} {L:Array Bool→Act→World→Prop} (hsel:Region.noSelect ops=true) (hs:Region.sinkB md ops n=true) (hc:Region.chainB md ops n=true) (hn:n<ops.size)
 (hdone:∀ listed a w,L listed a w→∀ j ∈ Region.ready md ops listed,n≤j) {fuel:Nat} {l':Array Bool} {w:World} (hS:S w)
 (hK:∀ a,HeadInv md ops n l'→K a→anyHT P md ops (NoPanic Q) S n L fuel l' a w) :
 ∀ (qs:List Nat) (listed:Array Bool) (a:Act),HeadInv md ops n listed→(qs.all fun q=>decide (q<n))=true→softs4 md ops qs listed=some l'→wpQuiet P ops S K (qs.map (opAt ops)) a→anyHT P md ops (NoPanic Q) S n L (qs.length+fuel) listed a w
 | [],listed,a,inv,_,h,hq=>by
   simp only [softs4,Option.some.injEq] at h
   subst h
   rw [List.length_nil,Nat.zero_add]
   exact hK a inv hq
 | i :: r,listed,a,inv,hall,h,hq=>by
   simp only [softs4] at h
   rw [List.all_cons,Bool.and_eq_true,decide_eq_true_eq] at hall
   split at h
   ·rename_i hcc
    simp only [Bool.and_eq_true,decide_eq_true_eq] at hcc
    obtain ⟨⟨⟨h1,h2⟩,h3⟩,h4⟩:=hcc
    have ho:=opAt_some h1
    have hr:i ∈ Region.ready md ops listed:=by simpa using h4
    rw [List.length_cons,show r.length+1+fuel=(r.length+fuel)+1 by omega]
    simp only [List.map_cons,wpQuiet] at hq
    split at hq
    ·rename_i hw
     obtain ⟨v,hv,hnn⟩:=hq
     refine anyHT_first ho (Region.noSelect_spec hsel) (fun _ _ _ h=>h) hs hc hn hall.1 hdone (v:=v) _ listed a w inv (Region.free_spec ho h3) hr (.inl ⟨hw,fun w2 hw2=>?_⟩) hS (softsT hsel hs hc hn hdone hS hK r _ _ (inv.set hr hall.1) hall.2 h hnn)
     have hv2:=hv w2 hw2
     unfold Oper.quietAt at hv2
     generalize hrr:(execOp a.eval (opAt ops i)).run P w2=x at hv2
     cases x with
     | ok n w3 =>
       obtain ⟨u,rfl⟩:=soft_value4 h2 hrr
       obtain ⟨rfl,rfl⟩:=hv2
       rfl
     | halt x w3=>exact hv2.elim
    ·rename_i hw
     exact anyHT_first ho (Region.noSelect_spec hsel) (fun _ _ _ h=>h) hs hc hn hall.1 hdone (v:=undef) _ listed a w inv (Region.free_spec ho h3) hr (.inr ⟨by simpa using hw,rfl⟩) hS (softsT hsel hs hc hn hdone hS hK r _ _ (inv.set hr hall.1) hall.2 h hq)
   ·cases h
def waysBT (md:Region.Mode) (ops:Array Oper) (n g:Nat):Ways4→Array Bool→Bool
 | .done last,listed=>(last.all fun q=>decide (q<n)) && match softs4 md ops last listed with
   | some l'=>Region.seqB md ops g n l'
   | none=>false
 | .one qs h t,listed=>(qs.all fun q=>decide (q<n)) && match softs4 md ops qs listed with
   | some l'=>decide (Region.ready md ops l'=[h]) && decide (h<n) && waysBT md ops n g t (l'.setIfInBounds h true)
   | none=>false
 | .two qs h1 t1 h2 t2,listed=>(qs.all fun q=>decide (q<n)) && match softs4 md ops qs listed with
   | some l'=>decide (Region.ready md ops l'=[h1,h2]) && decide (h1<n) && decide (h2<n) && waysBT md ops n g t1 (l'.setIfInBounds h1 true) && waysBT md ops n g t2 (l'.setIfInBounds h2 true)
   | none=>false
 | .three qs h1 t1 h2 t2 h3 t3,listed=>(qs.all fun q=>decide (q<n)) && match softs4 md ops qs listed with
   | some l'=>decide (Region.ready md ops l'=[h1,h2,h3]) && decide (h1<n) && decide (h2<n) && decide (h3<n) && waysBT md ops n g t1 (l'.setIfInBounds h1 true) && waysBT md ops n g t2 (l'.setIfInBounds h2 true) && waysBT md ops n g t3 (l'.setIfInBounds h3 true)
   | none=>false
def wpWaysT (P:Program) (ops:Array Oper) (Q:Exit→Act→World→Prop) (S:World→Prop) (tl:List Oper):Ways4→Act→World→Prop
 | .done last,a,w=>wpQuiet P ops S (fun a'=>wpList P ops (Exit.then (fun a2 w2=>Q .normal a2 w2) (NoPanic Q)) tl a' w) (last.map (opAt ops)) a
 | .one qs h t,a,w=>wpQuiet P ops S (fun a'=>wpList P ops (Exit.then (fun a2 w2=>S w2∧wpWaysT P ops Q S tl t a2 w2) (NoPanic Q)) [opAt ops h] a' w) (qs.map (opAt ops)) a
 | .two qs h1 t1 h2 t2,a,w=>wpQuiet P ops S (fun a'=>wpList P ops (Exit.then (fun a2 w2=>S w2∧wpWaysT P ops Q S tl t1 a2 w2) (NoPanic Q)) [opAt ops h1] a' w ∧
  wpList P ops (Exit.then (fun a2 w2=>S w2∧wpWaysT P ops Q S tl t2 a2 w2) (NoPanic Q)) [opAt ops h2] a' w) (qs.map (opAt ops)) a
 | .three qs h1 t1 h2 t2 h3 t3,a,w=>wpQuiet P ops S (fun a'=>wpList P ops (Exit.then (fun a2 w2=>S w2∧wpWaysT P ops Q S tl t1 a2 w2) (NoPanic Q)) [opAt ops h1] a' w ∧
  wpList P ops (Exit.then (fun a2 w2=>S w2∧wpWaysT P ops Q S tl t2 a2 w2) (NoPanic Q)) [opAt ops h2] a' w ∧
  wpList P ops (Exit.then (fun a2 w2=>S w2∧wpWaysT P ops Q S tl t3 a2 w2) (NoPanic Q)) [opAt ops h3] a' w) (qs.map (opAt ops)) a
theorem wpWaysT_done {Q:Exit→Act→World→Prop} {tl:List Oper} {last:List Nat} {a:Act} {w:World}:wpWaysT P ops Q S tl (.done last) a w=wpQuiet P ops S (fun a'=>wpList P ops (Exit.then (fun a2 w2=>Q .normal a2 w2) (NoPanic Q)) tl a' w) (last.map (opAt ops)) a:=rfl
theorem wpWaysT_one {Q:Exit→Act→World→Prop} {tl:List Oper} {qs:List Nat} {h:Nat} {t:Ways4} {a:Act} {w:World} :
 wpWaysT P ops Q S tl (.one qs h t) a w=wpQuiet P ops S (fun a'=>wpList P ops (Exit.then (fun a2 w2=>S w2∧wpWaysT P ops Q S tl t a2 w2) (NoPanic Q)) [opAt ops h] a' w) (qs.map (opAt ops)) a:=rfl
theorem wpWaysT_two {Q:Exit→Act→World→Prop} {tl:List Oper} {qs:List Nat} {h1 h2:Nat} {t1 t2:Ways4} {a:Act} {w:World} :
 wpWaysT P ops Q S tl (.two qs h1 t1 h2 t2) a w=wpQuiet P ops S (fun a'=>wpList P ops (Exit.then (fun a2 w2=>S w2∧wpWaysT P ops Q S tl t1 a2 w2) (NoPanic Q)) [opAt ops h1] a' w ∧
  wpList P ops (Exit.then (fun a2 w2=>S w2∧wpWaysT P ops Q S tl t2 a2 w2) (NoPanic Q)) [opAt ops h2] a' w) (qs.map (opAt ops)) a:=rfl
theorem anyHT_all {n:Nat} {Q:Exit→Act→World→Prop} {L:Array Bool→Act→World→Prop} {rs:List Nat} {fuel:Nat} {listed:Array Bool} {a:Act} {w:World} (hr:Region.ready md ops listed=rs) (hne:rs≠[])
 (h:∀ i ∈ rs,i<n∧wpOp P ops Q i (fun a' w'=>S w'∧anyHT P md ops Q S n L fuel (listed.setIfInBounds i true) a' w') a w):anyHT P md ops Q S n L (fuel+1) listed a w :=
 ⟨fun h0=>absurd (hr ▸ h0) hne,hr ▸ h⟩
theorem ready_mem {l:Array Bool} {rs:List Nat} {i:Nat} (hr:Region.ready md ops l=rs) (h:i ∈ rs):i ∈ Region.ready md ops l:=by rw [hr];exact h
theorem anyHT_of_ways {n g:Nat} {Q:Exit→Act→World→Prop} {tl:List Oper} (hsel:Region.noSelect ops=true) (hs:Region.sinkB md ops n=true) (hc:Region.chainB md ops n=true) (hn:n<ops.size) :
 ∀ (t:Ways4) (f:Nat) (listed:Array Bool) (a:Act) (w:World),S w→HeadInv md ops n listed→waysN4 t f=true→waysBT md ops n g t listed=true→wpWaysT P ops Q S tl t a w →
   anyHT P md ops (NoPanic Q) S n (fun listed a w=>Region.seqB md ops g n listed=true∧wpList P ops (Exit.then (fun a2 w2=>Q .normal a2 w2) (NoPanic Q)) tl a w) f listed a w
 | .done last,f,listed,a,w,hS,inv,hN,hB,h=>by
   simp only [waysBT,Bool.and_eq_true] at hB
   obtain ⟨hall,hB⟩:=hB
   simp only [waysN4,decide_eq_true_eq] at hN
   subst hN
   split at hB
   ·rename_i l' hl
    have:=softsT (fuel:=0) (Q:=Q) (L:=fun listed a w=>Region.seqB md ops g n listed=true∧wpList P ops (Exit.then (fun a2 w2=>Q .normal a2 w2) (NoPanic Q)) tl a w) hsel hs hc hn (fun listed' a' w' hL=>seqB_ready hL.1) hS (fun a' _ ha=>(And.intro hB ha:_∧_)) last listed a inv hall hl h
    exact this
   ·cases hB
 | .one qs i t,f,listed,a,w,hS,inv,hN,hB,h=>by
   simp only [waysBT,Bool.and_eq_true] at hB
   obtain ⟨hall,hB⟩:=hB
   simp only [waysN4,Bool.and_eq_true,decide_eq_true_eq] at hN
   split at hB
   ·rename_i l' hl
    simp only [Bool.and_eq_true,decide_eq_true_eq] at hB
    obtain ⟨⟨hr,hin⟩,hB2⟩:=hB
    rw [show f=qs.length+((f - qs.length - 1)+1) by omega]
    refine softsT (fuel:=(f - qs.length - 1)+1) hsel hs hc hn (fun listed' a' w' hL=>seqB_ready hL.1) hS (fun a' inv' ha=>?_) qs listed a inv hall hl h
    refine anyHT_all hr (by simp) fun j hj=>?_
    obtain rfl:j=i:=by simpa using hj
    have hm:=ready_mem hr hj
    exact ⟨hin,wpOp_of_one (ready_lt hm) (fun a2 w2 h2=>⟨h2.1,anyHT_of_ways hsel hs hc hn t _ _ a2 w2 h2.1 (inv'.set hm hin) hN.2 hB2 h2.2⟩) ha⟩
   ·cases hB
 | .two qs i t1 k t2,f,listed,a,w,hS,inv,hN,hB,h=>by
   simp only [waysBT,Bool.and_eq_true] at hB
   obtain ⟨hall,hB⟩:=hB
   simp only [waysN4,Bool.and_eq_true,decide_eq_true_eq] at hN
   split at hB
   ·rename_i l' hl
    simp only [Bool.and_eq_true,decide_eq_true_eq] at hB
    obtain ⟨⟨⟨⟨hr,hi1⟩,hi2⟩,hB1⟩,hB2⟩:=hB
    rw [show f=qs.length+((f - qs.length - 1)+1) by omega]
    refine softsT (fuel:=(f - qs.length - 1)+1) hsel hs hc hn (fun listed' a' w' hL=>seqB_ready hL.1) hS (fun a' inv' ha=>?_) qs listed a inv hall hl h
    refine anyHT_all hr (by simp) fun j hj=>?_
    have hj2:j=i∨j=k:=by simpa using hj
    have hm:=ready_mem hr hj
    rcases hj2 with rfl | rfl
    ·exact ⟨hi1,wpOp_of_one (ready_lt hm) (fun a2 w2 h2=>⟨h2.1,anyHT_of_ways hsel hs hc hn t1 _ _ a2 w2 h2.1 (inv'.set hm hi1) hN.1.2 hB1 h2.2⟩) ha.1⟩
    ·exact ⟨hi2,wpOp_of_one (ready_lt hm) (fun a2 w2 h2=>⟨h2.1,anyHT_of_ways hsel hs hc hn t2 _ _ a2 w2 h2.1 (inv'.set hm hi2) hN.2 hB2 h2.2⟩) ha.2⟩
   ·cases hB
 | .three qs i t1 k t2 m t3,f,listed,a,w,hS,inv,hN,hB,h=>by
   simp only [waysBT,Bool.and_eq_true] at hB
   obtain ⟨hall,hB⟩:=hB
   simp only [waysN4,Bool.and_eq_true,decide_eq_true_eq] at hN
   split at hB
   ·rename_i l' hl
    simp only [Bool.and_eq_true,decide_eq_true_eq] at hB
    obtain ⟨⟨⟨⟨⟨⟨hr,hi1⟩,hi2⟩,hi3⟩,hB1⟩,hB2⟩,hB3⟩:=hB
    rw [show f=qs.length+((f - qs.length - 1)+1) by omega]
    refine softsT (fuel:=(f - qs.length - 1)+1) hsel hs hc hn (fun listed' a' w' hL=>seqB_ready hL.1) hS (fun a' inv' ha=>?_) qs listed a inv hall hl h
    refine anyHT_all hr (by simp) fun j hj=>?_
    have hj2:j=i∨j=k∨j=m:=by simpa using hj
    have hm:=ready_mem hr hj
    rcases hj2 with rfl | rfl | rfl
    ·exact ⟨hi1,wpOp_of_one (ready_lt hm) (fun a2 w2 h2=>⟨h2.1,anyHT_of_ways hsel hs hc hn t1 _ _ a2 w2 h2.1 (inv'.set hm hi1) hN.1.1.2 hB1 h2.2⟩) ha.1⟩
    ·exact ⟨hi2,wpOp_of_one (ready_lt hm) (fun a2 w2 h2=>⟨h2.1,anyHT_of_ways hsel hs hc hn t2 _ _ a2 w2 h2.1 (inv'.set hm hi2) hN.1.2 hB2 h2.2⟩) ha.2.1⟩
    ·exact ⟨hi3,wpOp_of_one (ready_lt hm) (fun a2 w2 h2=>⟨h2.1,anyHT_of_ways hsel hs hc hn t3 _ _ a2 w2 h2.1 (inv'.set hm hi3) hN.2 hB3 h2.2⟩) ha.2.2⟩
   ·cases hB
theorem then_noPanic {Q:Exit→Act→World→Prop}:Exit.then (fun a w=>Q .normal a w) (NoPanic Q)=NoPanic Q:=by
 funext e a w
 cases e <;> rfl
end
def waysOKT (ops:Array Oper) (n:Nat) (t:Ways4):Bool:=Region.noSelect ops && decide (n<ops.size) && Region.sinkB .any ops n && Region.chainB .any ops n && waysN4 t n && waysBT .any ops n (ops.size - n) t (Array.replicate ops.size false)
theorem region_waysT {P:Program} {id:Nat} {Q:Exit→Act→World→Prop} {a:Act} {w:World} {l:List Oper} (n B:Nat) (hBw:B≤w.heap.size) (t:Ways4) (hm:P.follows .mixedOrders=true) (hB:waysOKT l.toArray n t=true)
 (h:∀ w',Below w.heap.size w w'→wpWaysT P l.toArray Q (fun w'=>∃ x:SubW B w,w'=x.at_) (l.drop n) t a w'):(Code.region id l.toArray true).wp P Q a w:=by
 simp only [waysOKT,Bool.and_eq_true,decide_eq_true_eq] at hB
 obtain ⟨⟨⟨⟨⟨hsel,hn⟩,hs⟩,hc⟩,hN⟩,hT⟩:=hB
 have hb:=below_drewN (Below.refl w.heap.size w) 1
 have hdl:(l.drop n).length=l.toArray.size - n:=by simp
 have inv0:HeadInv .any l.toArray n (Array.replicate l.toArray.size false) :=
  ⟨by simp,fun j oj _ hl=>(by rw [getD_replicate_false] at hl;cases hl),fun t _ ht=>getD_in (by simpa using ht) (getD_replicate_false _ _)⟩
 have H:=anyHT_of_ways (md:=.any) (S:=fun w'=>∃ x:SubW B w,w'=x.at_) hsel hs hc hn t n _ a _ ⟨⟨_,hb.mono hBw⟩,rfl⟩ inv0 hN hT (h _ hb)
 refine wp_region_noPanic (wp_region_any hm ?_)
 have:=any_of_HT (g:=l.toArray.size - n) (fun listed a' w' hL=>by
  have h2:=hL.2
  rw [then_noPanic] at h2
  have:=wpAny_of_seq (md:=.any) (Q':=NoPanic Q) (l.drop n) n listed a' w' (fun j=>by simp [List.getElem?_drop]) (by rw [hdl];exact hL.1) h2
  rwa [hdl] at this) n _ a _ H
 rwa [show n+(l.toArray.size - n)=l.toArray.size by omega] at this
end Go.Proofs.YtgkddhncfaeidaaGreat
namespace Go.Proofs.YtgkddhncfaeidaaGreat
open Go.ChangeShapes Go.WideShapes Go.ChangeAt Go.RowKit CrcM PageM
theorem EnAt.take {w:World} {A:Option Addr} {es:List EntD} (h:EnAt w A es) (k:Nat):EnAt w A (es.take k):=fun hne=>by
 obtain ⟨b,off,hA,hc⟩:=h (fun e=>hne (by rw [e];simp))
 refine ⟨b,off,hA,fun i e he=>hc i e ?_⟩
 rw [List.getElem?_take] at he
 split at he
 ·exact he
 ·cases he
theorem KyAt.take {w:World} {A:Option Addr} {es:List KeyD} (h:KyAt w A es) (k:Nat):KyAt w A (es.take k):=fun hne=>by
 obtain ⟨b,off,hA,hc⟩:=h (fun e=>hne (by rw [e];simp))
 refine ⟨b,off,hA,fun i e he=>hc i e ?_⟩
 rw [List.getElem?_take] at he
 split at he
 ·exact he
 ·cases he
theorem EnAt.drop {w:World} {b off:Nat} {es:List EntD} (h:EnAt w (some ⟨b,off,none⟩) es) (k:Nat):EnAt w (some ⟨b,off+k*8,none⟩) (es.drop k):=fun hne=>by
 obtain ⟨b',off',hA,hc⟩:=h (fun e=>hne (by rw [e];simp))
 injection hA with hA
 injection hA with h1 h2
 subst h1 h2
 refine ⟨b,off+k*8,rfl,fun i e he=>?_⟩
 rw [List.getElem?_drop] at he
 have:=hc (k+i) e he
 rwa [Nat.add_mul,← Nat.add_assoc] at this
theorem KyAt.drop {w:World} {b off:Nat} {es:List KeyD} (h:KyAt w (some ⟨b,off,none⟩) es) (k:Nat):KyAt w (some ⟨b,off+k*2,none⟩) (es.drop k):=fun hne=>by
 obtain ⟨b',off',hA,hc⟩:=h (fun e=>hne (by rw [e];simp))
 injection hA with hA
 injection hA with h1 h2
 subst h1 h2
 refine ⟨b,off+k*2,rfl,fun i e he=>?_⟩
 rw [List.getElem?_drop] at he
 have:=hc (k+i) e he
 rwa [Nat.add_mul,← Nat.add_assoc] at this
theorem KdAt.drop {w:World} {b off:Nat} {es:List Int} (h:KdAt w (some ⟨b,off,none⟩) es) (k:Nat):KdAt w (some ⟨b,off+k,none⟩) (es.drop k):=fun hne=>by
 obtain ⟨b',off',hA,hc⟩:=h (fun e=>hne (by rw [e];simp))
 injection hA with hA
 injection hA with h1 h2
 subst h1 h2
 refine ⟨b,off+k,rfl,fun i e he=>?_⟩
 rw [List.getElem?_drop] at he
 have:=hc (k+i) e he
 rwa [← Nat.add_assoc] at this
theorem halves_any (n:NodeD) (l:NdL) (hc:cleanN n) (h:Nat) (hh:h=(n.size+1) / 2) (h2:2≤n.size) (hm:n.size≤1000000000) (w:World) (hat:NodeAt w n l) :
 Calls Tryz.prog 95 #[.agg #[.bool n.leaf,.slice l.EA n.es.length l.ec,.slice l.KA n.ks.length l.kc,.slice l.DA n.ds.length l.dc]] w fun e w'=>(∃ la lb:NdL,e=.returned (.tuple #[.agg #[.bool (partA n h).leaf,.slice la.EA (partA n h).es.length la.ec,.slice la.KA (partA n h).ks.length la.kc,.slice la.DA (partA n h).ds.length la.dc],.agg #[.bool (partB n h).leaf,.slice lb.EA (partB n h).es.length lb.ec,.slice lb.KA (partB n h).ks.length lb.kc,.slice lb.DA (partB n h).ds.length lb.dc]])∧NodeAt w' (partA n h) la∧NodeAt w' (partB n h) lb)∧Below w.heap.size w w':=by
 obtain ⟨lf,es,ks,ds⟩:=n
 obtain ⟨EA,ec,KA,kc,DA,dc⟩:=l
 unfold cleanN at hc
 unfold NodeD.size at hh h2 hm
 have zk:∀ (A:Option Addr) w',KyAt w' A []:=fun A w' hne=>absurd rfl hne
 have ze:∀ (A:Option Addr) w',EnAt w' A []:=fun A w' hne=>absurd rfl hne
 have zd:∀ (A:Option Addr) w',KdAt w' A []:=fun A w' hne=>absurd rfl hne
 have m0:0≤maxLen:=Nat.zero_le _
 cases lf
 ·simp only [Bool.false_eq_true,if_false] at hc hh h2 hm
  obtain ⟨rfl,hkd⟩:=hc
  obtain ⟨bk,ok,hKA,_⟩:=hat.k (by intro e;dsimp only at e;rw [e] at hkd;simp at hkd;omega)
  obtain ⟨bd,od,hDA,_⟩:=hat.d (by intro e;dsimp only at e;rw [e] at h2;simp at h2)
  dsimp only at hKA hDA
  subst hKA hDA
  have e1:=hat.kc
  have e2:=hat.dc
  have e3:=hat.km
  have e4:=hat.dm
  dsimp only at e1 e2 e3 e4
  have e3':=e3
  have e4':=e4
  unfold maxLen at e3' e4'
  have:=halves_inner bk ok ds.length kc bd od dc h EA 0 ec hh h2 (by omega) e2 (by omega) e3' e4' w
  have hr:=this.mono (R':=fun e w'=>(∃ la lb:NdL,e=.returned (.tuple #[.agg #[.bool (partA ⟨false,[],ks,ds⟩ h).leaf,.slice la.EA (partA ⟨false,[],ks,ds⟩ h).es.length la.ec,.slice la.KA (partA ⟨false,[],ks,ds⟩ h).ks.length la.kc,.slice la.DA (partA ⟨false,[],ks,ds⟩ h).ds.length la.dc],.agg #[.bool (partB ⟨false,[],ks,ds⟩ h).leaf,.slice lb.EA (partB ⟨false,[],ks,ds⟩ h).es.length lb.ec,.slice lb.KA (partB ⟨false,[],ks,ds⟩ h).ks.length lb.kc,.slice lb.DA (partB ⟨false,[],ks,ds⟩ h).ds.length lb.dc]])∧NodeAt w' (partA ⟨false,[],ks,ds⟩ h) la∧NodeAt w' (partB ⟨false,[],ks,ds⟩ h) lb)∧Below w.heap.size w w') (by
   rintro e w' ⟨rfl,hb⟩
   refine ⟨⟨⟨none,0,some ⟨bk,ok,none⟩,kc,some ⟨bd,od,none⟩,dc⟩,⟨none,0,some ⟨bk,ok+h*2,none⟩,kc - h,some ⟨bd,od+h,none⟩,dc - h⟩,?_,?_,?_⟩,hb⟩
   ·simp only [partA,partB,List.length_take,List.length_drop,List.length_nil,Nat.min_zero,Nat.zero_sub]
    rw [show min h ks.length=h by omega,show min h ds.length=h by omega,hkd]
   ·have ek:=(hat.below hb).k.take h
    have ed:=(hat.below hb).d.take h
    exact { e:=by unfold partA;rw [List.take_nil];exact ze _ _,k:=ek,d:=ed,ec:=by unfold partA;simp,kc:=by show (ks.take h).length≤kc;rw [List.length_take];omega,dc:=by show (ds.take h).length≤dc;rw [List.length_take];omega,em:=m0,km:=e3,dm:=e4 }
   ·have ek:=(hat.below hb).k.drop h
    have ed:=(hat.below hb).d.drop h
    exact { e:=by unfold partB;rw [List.drop_nil];exact ze _ _,k:=ek,d:=ed,ec:=by unfold partB;simp,kc:=by show (ks.drop h).length≤kc - h;rw [List.length_drop];omega,dc:=by show (ds.drop h).length≤dc - h;rw [List.length_drop];omega,em:=m0,km:=by show kc - h≤maxLen;omega,dm:=by show dc - h≤maxLen;omega })
  rw [hkd]
  exact hr
 ·simp only [if_true] at hc hh h2 hm
  obtain ⟨rfl,rfl⟩:=hc
  obtain ⟨be,oe,hEA,_⟩:=hat.e (by intro e;dsimp only at e;rw [e] at h2;simp at h2)
  dsimp only at hEA
  subst hEA
  have e1:=hat.ec
  have e3:=hat.em
  dsimp only at e1 e3
  have e3':=e3
  unfold maxLen at e3'
  refine (halves_leaf be oe es.length ec h KA DA 0 kc 0 dc hh h2 e1 (by omega) e3' w).mono ?_
  rintro e w' ⟨rfl,hb⟩
  refine ⟨⟨⟨some ⟨be,oe,none⟩,ec,none,0,none,0⟩,⟨some ⟨be,oe+h*8,none⟩,ec - h,none,0,none,0⟩,?_,?_,?_⟩,hb⟩
  ·simp only [partA,partB,List.length_take,List.length_drop,List.length_nil,Nat.min_zero,Nat.zero_sub]
   rw [show min h es.length=h by omega]
  ·have ek:=(hat.below hb).e.take h
   exact { e:=ek,k:=by unfold partA;rw [List.take_nil];exact zk _ _,d:=by show KdAt w' none (([]:List Int).take h);rw [List.take_nil];exact zd _ _,ec:=by show (es.take h).length≤ec;rw [List.length_take];omega,kc:=by unfold partA;simp,dc:=by unfold partA;simp,em:=e3,km:=m0,dm:=m0 }
  ·have ek:=(hat.below hb).e.drop h
   exact { e:=ek,k:=by unfold partB;rw [List.drop_nil];exact zk _ _,d:=by show KdAt w' none (([]:List Int).drop h);rw [List.drop_nil];exact zd _ _,ec:=by show (es.drop h).length≤ec - h;rw [List.length_drop];omega,kc:=by unfold partB;simp,dc:=by unfold partB;simp,em:=by show ec - h≤maxLen;omega,km:=m0,dm:=m0 }
theorem fits_small {n:NodeD} (hc:cleanN n) (hm:n.size≤1000000000):FitsN n:=by
 obtain ⟨lf,es,ks,ds⟩:=n
 unfold cleanN at hc
 unfold NodeD.size at hm
 cases lf
 ·simp only [Bool.false_eq_true,if_false] at hc hm
  obtain ⟨rfl,hkd⟩:=hc
  exact ⟨by simp,by dsimp only;omega,by dsimp only;omega⟩
 ·simp only [if_true] at hc hm
  obtain ⟨rfl,rfl⟩:=hc
  exact ⟨by dsimp only;omega,by simp,by simp⟩
theorem split_any:∀ (k:Nat) (n:NodeD) (l:NdL),n.size≤k→cleanN n→n.size≤1000000000→∀ w,NodeAt w n l →
 Calls Tryz.prog 62 #[.agg #[.bool n.leaf,.slice l.EA n.es.length l.ec,.slice l.KA n.ks.length l.kc,.slice l.DA n.ds.length l.dc]] w (SplitRet w n)
 | 0,n,l,hk,hc,_,w,_=>split_none n l hc (by omega) w
 | k+1,n,l,hk,hc,hm,w,hat=>by
   by_cases h0:n.size=0
   ·exact split_none n l hc h0 w
   ·by_cases h1:n.size≤capN n.leaf
    ·exact split_one n l hc (by omega) h1 (fits_small hc hm) w hat
    ·have hcap:7≤capN n.leaf:=by unfold capN;split <;> omega
     have hs:(partA n ((n.size+1) / 2)).size=(n.size+1) / 2:=partA_size n _ (by omega)
     have hs2:=partB_size n ((n.size+1) / 2)
     exact split_two n _ _ l hc (by omega) _ rfl rfl rfl hm w hat (fun W' h'=>halves_any n l hc _ rfl (by omega) hm W' h')
      (fun la W' h'=>split_any k _ la (by omega) (partA_clean hc _) (by omega) W' h') (fun lb W' h'=>split_any k _ lb (by omega) (partB_clean hc _) (by omega) W' h')
def joinD (a b:NodeD):NodeD:=if a.leaf=true then ⟨true,a.es ++ b.es,[],[]⟩ else ⟨false,[],a.ks ++ b.ks,a.ds ++ b.ds⟩
theorem NodeAt.off {w w':World} {g:Nat} {cs:Array Value} {T:TypeId} {n:NodeD} {l:NdL} (h:w.heap[g]?=some (.cells cs T (0,0))) (hc:∀ (j:Nat) (k:IntKind) (z:Int),cs[j]?≠some (.int k z)) (he:∀ b,b≠g→w'.heap[b]?=w.heap[b]?) (hn:NodeAt w n l):NodeAt w' n l:=by
 have cell:∀ {b o:Nat} {k:IntKind} {z:Int},w.cell? ⟨b,o,none⟩=some (.int k z)→w'.cell? ⟨b,o,none⟩=some (.int k z):=fun {b o k z} hb=>by
  have hne:b≠g:=fun e=>by
   subst e
   exact hc o k z (by simpa [World.cell?,h] using hb)
  exact (World.cell?_of_block (a:=⟨b,o,none⟩) (he b hne)).trans hb
 exact { hn with
  e:=fun hne=>by
    obtain ⟨b,off,hA,hx⟩:=hn.e hne
    refine ⟨b,off,hA,fun j e he=>?_⟩
    obtain ⟨a0,a1,a2,a3,a4,a5,a6,a7⟩:=hx j e he
    exact ⟨cell a0,cell a1,cell a2,cell a3,cell a4,cell a5,cell a6,cell a7⟩
  k:=fun hne=>by
    obtain ⟨b,off,hA,hx⟩:=hn.k hne
    refine ⟨b,off,hA,fun j e he=>?_⟩
    obtain ⟨a0,a1⟩:=hx j e he
    exact ⟨cell a0,cell a1⟩
  d:=fun hne=>by
    obtain ⟨b,off,hA,hx⟩:=hn.d hne
    exact ⟨b,off,hA,fun j e he=>cell (hx j e he)⟩ }
theorem nd_frozen {w:World} {g i:Nat} {cs:Array Value} {T:TypeId} (h:w.heap[g]?=some (.cells cs T (0,0))):w.frozen? ⟨g,i,none⟩=false:=by simp [World.frozen?,h]
theorem box_ints {A B C:Value} {lf:Bool} (hA:∃ a n c,A=.slice a n c) (hB:∃ a n c,B=.slice a n c) (hC:∃ a n c,C=.slice a n c):∀ (j:Nat) (k:IntKind) (z:Int),(#[.bool lf,A,B,C]:Array Value)[j]?≠some (.int k z):=by
 obtain ⟨_,_,_,rfl⟩:=hA
 obtain ⟨_,_,_,rfl⟩:=hB
 obtain ⟨_,_,_,rfl⟩:=hC
 intro j k z
 match j with
 | 0=>simp
 | 1=>simp
 | 2=>simp
 | 3=>simp
 | j+4=>simp
theorem bel_cell {B:Nat} {a w:World} {g i:Nat} {u:Value} (h:Below B a w) (hg:B≤g):Below B a (w.setCell ⟨g,i,none⟩ u):=Below.setCell (p:=⟨g,i,none⟩) h hg u
theorem alloc_bel {w x:World} {o:Obj} (e:x=w.alloc o):Below w.heap.size w x:=by rw [e];exact (Below.refl _ _).alloc (Nat.le_refl _) _
end Go.Proofs.YtgkddhncfaeidaaGreat
