/- Squeezed: the texts as they are written lie in wip/tpl. -/
import Derived.Test.YtgkddhncfaeidaaGreatPart01
import Derived.Test.YtgkddhncfaeidaaGreatPart02
import Derived.Test.YtgkddhncfaeidaaGreatPart03
import Derived.Test.YtgkddhncfaeidaaGreatPart00
import Derived.Great.BuildSlice
import Derived.Maps.AppendAt
import Derived.Lib.AppendZeros
set_option maxRecDepth 100000
set_option maxHeartbeats 4000000
set_option linter.unusedSimpArgs false
set_option linter.unusedVariables false
namespace Go.Proofs.YtgkddhncfaeidaaGreat
open Go.RowKit
def softB4 (o:Oper):Bool:=match o.op with
 | .move _ | .assign _ | .pick _ _ _ | .load _ _ | .binOp _ _ _ _ _ | .unOp _ _ _ | .convert _ _ _ | .slice _ _ _ _ _ | .fieldAddr _ _ _ | .field _ _ _ | .indexAddr _ _ _ | .index _ _ _ | .extract _ _ | .build _ _ | .nilCheck _=>true
 | .call c=>match c.callee with
   | .builtin .len | .builtin .cap | .builtin .min | .builtin .max=>true
   | _=>false
 | _=>false
theorem soft_value4 {P:Program} {o:Oper} (hs:softB4 o=true) {ρ:Operand→Value} {w w':World} {n:Next} (h:(execOp ρ o).run P w=.ok n w'):∃ u,n=.value u:=by
 obtain ⟨dst,op,type,pos,after,guard⟩:=o
 cases op <;> simp only [softB4,Bool.false_eq_true] at hs <;> simp only [execOp,Sem.run_bind,Sem.run_pure] at h
 case move=>exact ⟨_,by injection h with h1;exact h1.symm⟩
 case assign=>exact ⟨_,by injection h with h1;exact h1.symm⟩
 case call c =>
  obtain ⟨callee,args,argTypes⟩:=c
  cases callee with
  | builtin b =>
    cases b <;> simp only [Bool.false_eq_true] at hs <;> simp only [resolve,invoke,builtin,Sem.run_bind,Sem.run_pure,Result.andThen_ok] at h <;> exact andThen_value h
  | _=>simp only [Bool.false_eq_true] at hs
 case pick c a b =>
  generalize (asBool _).run P w=m at h
  cases m with
  | ok v w2=>simp [Result.andThen] at h;exact ⟨_,h.1.symm⟩
  | halt x w2=>simp [Result.andThen] at h
 case nilCheck x =>
  split at h
  ·simp [runtimePanic] at h
  ·simp [runtimePanic] at h
  ·simp [runtimePanic] at h
  ·split at h
   ·simp [runtimePanic] at h
   ·simp only [Sem.run_bind] at h
    generalize Sem.run P program w=m1 at h
    cases m1 with
    | halt x w1=>simp [Result.andThen] at h
    | ok a1 w1 =>
      simp only [Result.andThen_ok] at h
      generalize Sem.run P (nilAhead _ _ _ _) w1=m2 at h
      cases m2 with
      | halt x w2=>simp [Result.andThen] at h
      | ok a2 w2 =>
        simp only [Result.andThen_ok] at h
        split at h
        ·simp [unsupported] at h
        ·exact ⟨_,by injection h with h1;exact h1.symm⟩
   ·exact ⟨_,by injection h with h1;exact h1.symm⟩
  ·exact ⟨_,by injection h with h1;exact h1.symm⟩
 all_goals exact andThen_value h
section
variable {P:Program} {ops:Array Oper} {md:Region.Mode} {S:World→Prop}
def softs4 (md:Region.Mode) (ops:Array Oper):List Nat→Array Bool→Option (Array Bool)
 | [],listed=>some listed
 | i :: r,listed=>if (decide (i<ops.size) && softB4 (opAt ops i) && Region.free md ops listed i && (Region.ready md ops listed).contains i)=true then softs4 md ops r (listed.setIfInBounds i true) else none
theorem softs_take4 {Q:Exit→Act→World→Prop} {K:Act→Prop} (hsel:Region.noSelect ops=true) {fuel:Nat} {l':Array Bool} {w:World} (hS:S w) (hK:∀ a,K a→wpAnyH P md ops (NoPanic Q) S fuel l' a w) :
 ∀ (qs:List Nat) (listed:Array Bool) (a:Act),softs4 md ops qs listed=some l'→wpQuiet P ops S K (qs.map (opAt ops)) a→wpAnyH P md ops (NoPanic Q) S (qs.length+fuel) listed a w
 | [],listed,a,h,hq=>by
   simp only [softs4,Option.some.injEq] at h
   subst h
   rw [List.length_nil,Nat.zero_add]
   exact hK a hq
 | i :: r,listed,a,h,hq=>by
   simp only [softs4] at h
   split at h
   ·rename_i hc
    simp only [Bool.and_eq_true,decide_eq_true_eq] at hc
    obtain ⟨⟨⟨h1,h2⟩,h3⟩,h4⟩:=hc
    have ho:=opAt_some h1
    rw [List.length_cons,show r.length+1+fuel=(r.length+fuel)+1 by omega]
    simp only [List.map_cons,wpQuiet] at hq
    split at hq
    ·rename_i hw
     obtain ⟨v,hv,hn⟩:=hq
     refine wpAnyH_take ho hsel h3 h4 (fun _ _ _ h=>h) (v:=v) (.inl ⟨hw,fun w2 hw2=>?_⟩) hS (softs_take4 hsel hS hK r _ _ h hn)
     have hv2:=hv w2 hw2
     unfold Oper.quietAt at hv2
     generalize hr:(execOp a.eval (opAt ops i)).run P w2=x at hv2
     cases x with
     | ok n w3 =>
       obtain ⟨u,rfl⟩:=soft_value4 h2 hr
       obtain ⟨rfl,rfl⟩:=hv2
       rfl
     | halt x w3=>exact hv2.elim
    ·rename_i hw
     exact wpAnyH_take ho hsel h3 h4 (fun _ _ _ h=>h) (v:=undef) (.inr ⟨by simpa using hw,rfl⟩) hS (softs_take4 hsel hS hK r _ _ h hq)
   ·cases h
inductive Ways4 where
 | done (last:List Nat)
 | one (qs:List Nat) (h:Nat) (t:Ways4)
 | two (qs:List Nat) (h1:Nat) (t1:Ways4) (h2:Nat) (t2:Ways4)
 | three (qs:List Nat) (h1:Nat) (t1:Ways4) (h2:Nat) (t2:Ways4) (h3:Nat) (t3:Ways4)
section
variable {P:Program} {ops:Array Oper} {md:Region.Mode} {S:World→Prop}
def waysB4 (md:Region.Mode) (ops:Array Oper):Ways4→Array Bool→Bool
 | .done last,listed=>match softs4 md ops last listed with
   | some l'=>(Region.ready md ops l').isEmpty
   | none=>false
 | .one qs h t,listed=>match softs4 md ops qs listed with
   | some l'=>decide (Region.ready md ops l'=[h]) && waysB4 md ops t (l'.setIfInBounds h true)
   | none=>false
 | .two qs h1 t1 h2 t2,listed=>match softs4 md ops qs listed with
   | some l'=>decide (Region.ready md ops l'=[h1,h2]) && waysB4 md ops t1 (l'.setIfInBounds h1 true) && waysB4 md ops t2 (l'.setIfInBounds h2 true)
   | none=>false
 | .three qs h1 t1 h2 t2 h3 t3,listed=>match softs4 md ops qs listed with
   | some l'=>decide (Region.ready md ops l'=[h1,h2,h3]) && waysB4 md ops t1 (l'.setIfInBounds h1 true) && waysB4 md ops t2 (l'.setIfInBounds h2 true) && waysB4 md ops t3 (l'.setIfInBounds h3 true)
   | none=>false
def waysN4:Ways4→Nat→Bool
 | .done last,n=>decide (last.length=n)
 | .one qs _ t,n=>decide (qs.length+1≤n) && waysN4 t (n - qs.length - 1)
 | .two qs _ t1 _ t2,n=>decide (qs.length+1≤n) && waysN4 t1 (n - qs.length - 1) && waysN4 t2 (n - qs.length - 1)
 | .three qs _ t1 _ t2 _ t3,n=>decide (qs.length+1≤n) && waysN4 t1 (n - qs.length - 1) && waysN4 t2 (n - qs.length - 1) && waysN4 t3 (n - qs.length - 1)
def wpWays4 (P:Program) (ops:Array Oper) (Q:Exit→Act→World→Prop) (S:World→Prop):Ways4→Act→World→Prop
 | .done last,a,w=>wpQuiet P ops S (fun a'=>Q .normal a' w) (last.map (opAt ops)) a
 | .one qs h t,a,w=>wpQuiet P ops S (fun a'=>wpList P ops (Exit.then (fun a2 w2=>S w2∧wpWays4 P ops Q S t a2 w2) (NoPanic Q)) [opAt ops h] a' w) (qs.map (opAt ops)) a
 | .two qs h1 t1 h2 t2,a,w=>wpQuiet P ops S (fun a'=>wpList P ops (Exit.then (fun a2 w2=>S w2∧wpWays4 P ops Q S t1 a2 w2) (NoPanic Q)) [opAt ops h1] a' w ∧
  wpList P ops (Exit.then (fun a2 w2=>S w2∧wpWays4 P ops Q S t2 a2 w2) (NoPanic Q)) [opAt ops h2] a' w) (qs.map (opAt ops)) a
 | .three qs h1 t1 h2 t2 h3 t3,a,w=>wpQuiet P ops S (fun a'=>wpList P ops (Exit.then (fun a2 w2=>S w2∧wpWays4 P ops Q S t1 a2 w2) (NoPanic Q)) [opAt ops h1] a' w ∧
  wpList P ops (Exit.then (fun a2 w2=>S w2∧wpWays4 P ops Q S t2 a2 w2) (NoPanic Q)) [opAt ops h2] a' w ∧
  wpList P ops (Exit.then (fun a2 w2=>S w2∧wpWays4 P ops Q S t3 a2 w2) (NoPanic Q)) [opAt ops h3] a' w) (qs.map (opAt ops)) a
theorem wpWays_done4 {Q:Exit→Act→World→Prop} {last:List Nat} {a:Act} {w:World}:wpWays4 P ops Q S (.done last) a w=wpQuiet P ops S (fun a'=>Q .normal a' w) (last.map (opAt ops)) a:=rfl
theorem wpWays_one4 {Q:Exit→Act→World→Prop} {qs:List Nat} {h:Nat} {t:Ways4} {a:Act} {w:World} :
 wpWays4 P ops Q S (.one qs h t) a w=wpQuiet P ops S (fun a'=>wpList P ops (Exit.then (fun a2 w2=>S w2∧wpWays4 P ops Q S t a2 w2) (NoPanic Q)) [opAt ops h] a' w) (qs.map (opAt ops)) a:=rfl
theorem wpWays_two4 {Q:Exit→Act→World→Prop} {qs:List Nat} {h1 h2:Nat} {t1 t2:Ways4} {a:Act} {w:World} :
 wpWays4 P ops Q S (.two qs h1 t1 h2 t2) a w=wpQuiet P ops S (fun a'=>wpList P ops (Exit.then (fun a2 w2=>S w2∧wpWays4 P ops Q S t1 a2 w2) (NoPanic Q)) [opAt ops h1] a' w ∧
  wpList P ops (Exit.then (fun a2 w2=>S w2∧wpWays4 P ops Q S t2 a2 w2) (NoPanic Q)) [opAt ops h2] a' w) (qs.map (opAt ops)) a:=rfl
theorem wpAnyH_of_ways4 {Q:Exit→Act→World→Prop} (hsel:Region.noSelect ops=true) :
 ∀ (t:Ways4) (n:Nat) (listed:Array Bool) (a:Act) (w:World),S w→waysN4 t n=true→waysB4 md ops t listed=true→wpWays4 P ops Q S t a w→wpAnyH P md ops (NoPanic Q) S n listed a w
 | .done last,n,listed,a,w,hS,hN,hB,h=>by
   simp only [waysB4] at hB
   simp only [waysN4,decide_eq_true_eq] at hN
   subst hN
   split at hB
   ·rename_i l' hl
    have hr:Region.ready md ops l'=[]:=by simpa using hB
    have:=softs_take4 (P:=P) (Q:=Q) (K:=fun a'=>Q .normal a' w) (fuel:=0) hsel hS (fun a' ha=>wpAnyH_done hr (NoPanic.normal ha) 0) last listed a hl h
    simpa using this
   ·cases hB
 | .one qs i t,n,listed,a,w,hS,hN,hB,h=>by
   simp only [waysB4] at hB
   simp only [waysN4,Bool.and_eq_true,decide_eq_true_eq] at hN
   split at hB
   ·rename_i l' hl
    simp only [Bool.and_eq_true,decide_eq_true_eq] at hB
    obtain ⟨hr,hB2⟩:=hB
    have e:n=qs.length+((n - qs.length - 1)+1):=by omega
    rw [e]
    refine softs_take4 (fuel:=(n - qs.length - 1)+1) hsel hS (fun a' ha=>?_) qs listed a hl h
    refine wpAnyH_all hr (by simp) fun j hj=>?_
    obtain rfl:j=i:=by simpa using hj
    exact wpOp_of_one (ready_lt (md:=md) (l:=l') (by rw [hr];simp)) (fun a2 w2 h2=>⟨h2.1,wpAnyH_of_ways4 hsel t _ _ a2 w2 h2.1 hN.2 hB2 h2.2⟩) ha
   ·cases hB
 | .two qs i t1 k t2,n,listed,a,w,hS,hN,hB,h=>by
   simp only [waysB4] at hB
   simp only [waysN4,Bool.and_eq_true,decide_eq_true_eq] at hN
   split at hB
   ·rename_i l' hl
    simp only [Bool.and_eq_true,decide_eq_true_eq] at hB
    obtain ⟨⟨hr,hB1⟩,hB2⟩:=hB
    have e:n=qs.length+((n - qs.length - 1)+1):=by omega
    rw [e]
    refine softs_take4 (fuel:=(n - qs.length - 1)+1) hsel hS (fun a' ha=>?_) qs listed a hl h
    refine wpAnyH_all hr (by simp) fun j hj=>?_
    have hj2:j=i∨j=k:=by simpa using hj
    have hlt:j<ops.size:=ready_lt (md:=md) (l:=l') (by rw [hr];exact hj)
    rcases hj2 with rfl | rfl
    ·exact wpOp_of_one hlt (fun a2 w2 h2=>⟨h2.1,wpAnyH_of_ways4 hsel t1 _ _ a2 w2 h2.1 hN.1.2 hB1 h2.2⟩) ha.1
    ·exact wpOp_of_one hlt (fun a2 w2 h2=>⟨h2.1,wpAnyH_of_ways4 hsel t2 _ _ a2 w2 h2.1 hN.2 hB2 h2.2⟩) ha.2
   ·cases hB
 | .three qs i t1 k t2 m t3,n,listed,a,w,hS,hN,hB,h=>by
   simp only [waysB4] at hB
   simp only [waysN4,Bool.and_eq_true,decide_eq_true_eq] at hN
   split at hB
   ·rename_i l' hl
    simp only [Bool.and_eq_true,decide_eq_true_eq] at hB
    obtain ⟨⟨⟨hr,hB1⟩,hB2⟩,hB3⟩:=hB
    have e:n=qs.length+((n - qs.length - 1)+1):=by omega
    rw [e]
    refine softs_take4 (fuel:=(n - qs.length - 1)+1) hsel hS (fun a' ha=>?_) qs listed a hl h
    refine wpAnyH_all hr (by simp) fun j hj=>?_
    have hj2:j=i∨j=k∨j=m:=by simpa using hj
    have hlt:j<ops.size:=ready_lt (md:=md) (l:=l') (by rw [hr];exact hj)
    rcases hj2 with rfl | rfl | rfl
    ·exact wpOp_of_one hlt (fun a2 w2 h2=>⟨h2.1,wpAnyH_of_ways4 hsel t1 _ _ a2 w2 h2.1 hN.1.1.2 hB1 h2.2⟩) ha.1
    ·exact wpOp_of_one hlt (fun a2 w2 h2=>⟨h2.1,wpAnyH_of_ways4 hsel t2 _ _ a2 w2 h2.1 hN.1.2 hB2 h2.2⟩) ha.2.1
    ·exact wpOp_of_one hlt (fun a2 w2 h2=>⟨h2.1,wpAnyH_of_ways4 hsel t3 _ _ a2 w2 h2.1 hN.2 hB3 h2.2⟩) ha.2.2
   ·cases hB
def waysOK4 (ops:Array Oper) (t:Ways4):Bool:=Region.noSelect ops && waysN4 t ops.size && waysB4 .any ops t (Array.replicate ops.size false)
theorem region_ways4 {id:Nat} {Q:Exit→Act→World→Prop} {a:Act} {w:World} (B:Nat) (hBw:B≤w.heap.size) (t:Ways4) (hm:P.follows .mixedOrders=true) (hB:waysOK4 ops t=true)
 (h:∀ w',Below w.heap.size w w'→wpWays4 P ops Q (fun w'=>∃ x:SubW B w,w'=x.at_) t a w'):(Code.region id ops true).wp P Q a w:=by
 simp only [waysOK4,Bool.and_eq_true] at hB
 obtain ⟨⟨h1,h2⟩,h3⟩:=hB
 have hb:=below_drewN (Below.refl w.heap.size w) 1
 refine wp_region_noPanic (wp_region_held (S:=fun w'=>∃ x:SubW B w,w'=x.at_) hm ?_)
 exact wpAnyH_of_ways4 h1 t _ _ a _ ⟨⟨_,hb.mono hBw⟩,rfl⟩ h2 h3 (h _ hb)
end
end
end Go.Proofs.YtgkddhncfaeidaaGreat
namespace Go.Proofs.YtgkddhncfaeidaaGreat
open Go.ChangeShapes Go.WideShapes Go.ChangeAt Go.RowKit CrcM PageM
theorem entry_any (e:EntD) (w:World) :
 Calls Tryz.prog 9 #[.agg #[.int .i64 e.se,.int .i64 e.st,.int .i64 e.en,.int .i64 e.ad,.int .i64 e.le,.int .i64 e.cn,.int .i64 e.co,.int .u32 e.cr]] w fun e' w'=>e'=.returned (.agg #[.int .i64 e.se,.int .i64 e.st,.int .i64 e.en,.int .i64 e.ad,.int .i64 e.le,.int .i64 e.cn,.int .i64 e.co,.int .u32 e.cr])∧Below w.heap.size w w':=by
 go_enter Tryz.func9,Tryz.ntmps9
 go_wp2_with fail
 exact bodyPost_ret (v:=.agg #[.int .i64 e.se,.int .i64 e.st,.int .i64 e.en,.int .i64 e.ad,.int .i64 e.le,.int .i64 e.cn,.int .i64 e.co,.int .u32 e.cr]) (results_cell_row (p:=2) (ty:=40) rfl _ _ (w.heap.size+1) 40 #[.int .i64 e.se,.int .i64 e.st,.int .i64 e.en,.int .i64 e.ad,.int .i64 e.le,.int .i64 e.cn,.int .i64 e.co,.int .u32 e.cr] (0,0) _ rfl (heap_alloc2_new _ _ _) Tryz.underlying40 rfl (by kernel_rfl)) rfl ⟨rfl,below_two (Below.refl _ _)⟩
end Go.Proofs.YtgkddhncfaeidaaGreat
namespace Go.Proofs.YtgkddhncfaeidaaGreat
open Go.RowKit
def CellsAt (w:World) (A:Option Addr) (us:List Value):Prop :=
 us≠[]→∃ b off,A=some ⟨b,off,none⟩∧∀ k (h:k<us.length),w.cell? ⟨b,off+k,none⟩=some us[k]
section
variable {w w':World} {base:Nat} {v:Value} {E:TypeId} {us vs:List Value}
theorem CellsAt.below {A:Option Addr} (h:CellsAt w A us) (hb:Below w.heap.size w w'):CellsAt w' A us:=fun hx=>by
 obtain ⟨b,off,ha,hc⟩:=h hx
 exact ⟨b,off,ha,fun k hk=>(hb.cell (p:=⟨b,off+k,none⟩) (World.block_lt_of_cell? w _ (hc k hk))).trans (hc k hk)⟩
theorem CellsAt.cells {A:Option Addr} (h:CellsAt w A us) (hy:us≠[]):∃ ad,A=some ad∧∀ j u,us[j]?=some u→w.cell? (ad.add j)=some u:=by
 obtain ⟨b,off,ha,hc⟩:=h hy
 refine ⟨⟨b,off,none⟩,ha,fun j u hu=>?_⟩
 obtain ⟨hj,e⟩:=List.getElem?_eq_some_iff.1 hu
 have hadd:(⟨b,off,none⟩:Addr).add j=⟨b,off+j,none⟩:=by unfold Addr.add;split <;> simp_all
 rw [hadd,hc j hj,e]
variable {P:Program}
end
end Go.Proofs.YtgkddhncfaeidaaGreat
namespace Go.Proofs.YtgkddhncfaeidaaGreat
open Go.ChangeShapes Go.WideShapes Go.ChangeAt Go.RowKit CrcM PageM
section
variable {w w':World} {base sz n:Nat} {v:Value} {E:TypeId} {us:List Value}
theorem row_form (h:w.ownsRow base E sz v n us):∃ A c,v=.slice A n c:=by
 rcases h.2 with ⟨rfl,rfl⟩ | ⟨g,cap,cur,rfl,_⟩
 ·exact ⟨none,0,rfl⟩
 ·exact ⟨_,_,rfl⟩
theorem row_keep (h:w.ownsRow base E sz v n us) (hk:∀ k cur,base≤k→w.heap[k]?=some (.cells cur E (0,0))→w'.heap[k]?=w.heap[k]?):w'.ownsRow base E sz v n us:=by
 refine ⟨h.1,?_⟩
 rcases h.2 with hn | ⟨g,cap,cur,rfl,hb,hgg,rest⟩
 ·exact .inl hn
 ·exact .inr ⟨g,cap,cur,rfl,hb,(hk g cur hb hgg).trans hgg,rest⟩
theorem row_below (h:w.ownsRow base E sz v n us) (hb:Below w.heap.size w w'):w'.ownsRow base E sz v n us:=row_keep h (fun k cur _ hc=>hb.block k (Array.getElem?_eq_some_iff.1 hc).1)
theorem row_cap {A:Option Addr} {c:Nat} (h:w.ownsRow base E sz (.slice A n c) n us):n≤c∧c≤maxLen:=by
 rcases h.2 with ⟨h1,h2⟩ | ⟨g,cap,cur,hv,_,_,h3,h4,_⟩
 ·injection h1 with h5 h6 h7
  unfold maxLen
  omega
 ·injection hv with h5 h6 h7
  subst h7
  exact ⟨h3,h4⟩
theorem typed_kept (h:w.ownsRow base E sz v n us) (hg:w.grownBy w' v.ownBlock) {g:Nat} {cs:Array Value} {T:TypeId} (hT:T≠E) (h0:w.heap[g]?=some (.cells cs T (0,0))):w'.heap[g]?=w.heap[g]? :=
 hg.block g (Array.getElem?_eq_some_iff.1 h0).1 (fun e=>by
  rcases h.2 with ⟨hv,_⟩ | ⟨g',cap,cur,hv,_,hh,_⟩
  ·rw [hv] at e;cases e
  ·rw [hv] at e
   injection e with e
   subst e
   rw [hh] at h0
   injection h0 with h0
   injection h0 with _ h0
   exact hT h0.symm)
theorem row_cells {A:Option Addr} {c:Nat} (h:w.ownsRow base E sz (.slice A n c) n us) (hne:us≠[]):∃ g,A=some ⟨g,0,none⟩∧base≤g∧∀ j u,us[j]?=some u→w.cell? ⟨g,j,none⟩=some u:=by
 have hl:=h.1
 rcases h.2 with ⟨h1,h2⟩ | ⟨g,cap,cur,hv,hb,hh,_⟩
 ·exfalso
  subst h2
  rw [Nat.zero_mul] at hl
  exact hne (List.eq_nil_of_length_eq_zero hl)
 ·injection hv with h5 h6 h7
  refine ⟨g,h5,hb,fun j u hj=>?_⟩
  subst h5
  have:=h.cells (g:=g) rfl j u hj
  rw [Addr.add_mid] at this
  simpa using this
theorem flat_get {α:Type} {f:α→List Value} {m:Nat} (hf:∀ x,(f x).length=m):∀ (l:List α) (i:Nat) (x:α) (j:Nat) (u:Value),l[i]?=some x→(f x)[j]?=some u→(l.flatMap f)[i*m+j]?=some u
 | [],i,x,j,u,h,_=>by simp at h
 | a :: t,0,x,j,u,h,hu=>by
   simp at h
   subst h
   have hj:j<(f a).length:=(List.getElem?_eq_some_iff.1 hu).1
   simp only [List.flatMap_cons,Nat.zero_mul,Nat.zero_add]
   rw [List.getElem?_append_left hj,hu]
 | a :: t,i+1,x,j,u,h,hu=>by
   have h':t[i]?=some x:=by simpa using h
   simp only [List.flatMap_cons]
   rw [List.getElem?_append_right (by rw [hf,Nat.succ_mul];omega),hf,show (i+1)*m+j - m=i*m+j by rw [Nat.succ_mul];omega]
   exact flat_get hf t i x j u h' hu
theorem EnAt.of_row {es:List EntD} {A:Option Addr} {c:Nat} (h:w.ownsRow base E 8 (.slice A n c) n (es.flatMap enC)):EnAt w A es:=fun hne=>by
 obtain ⟨g,rfl,_,hc⟩:=row_cells h (by intro e;obtain ⟨a,t,rfl⟩:=List.exists_cons_of_ne_nil hne;simp [enC] at e)
 refine ⟨g,0,rfl,fun i e hi=>?_⟩
 have q:=fun j u hu=>hc _ u (flat_get (f:=enC) (m:=8) (fun _=>rfl) es i e j u hi hu)
 simp only [Nat.zero_add]
 exact ⟨q 0 _ rfl,q 1 _ rfl,q 2 _ rfl,q 3 _ rfl,q 4 _ rfl,q 5 _ rfl,q 6 _ rfl,q 7 _ rfl⟩
theorem KyAt.of_row {ks:List KeyD} {A:Option Addr} {c:Nat} (h:w.ownsRow base E 2 (.slice A n c) n (ks.flatMap kyC)):KyAt w A ks:=fun hne=>by
 obtain ⟨g,rfl,_,hc⟩:=row_cells h (by intro e;obtain ⟨a,t,rfl⟩:=List.exists_cons_of_ne_nil hne;simp [kyC] at e)
 refine ⟨g,0,rfl,fun i e hi=>?_⟩
 have q:=fun j u hu=>hc _ u (flat_get (f:=kyC) (m:=2) (fun _=>rfl) ks i e j u hi hu)
 simp only [Nat.zero_add]
 exact ⟨q 0 _ rfl,q 1 _ rfl⟩
def kdC (z:Int):Value:=.int .i64 z
theorem KdAt.of_row {ds:List Int} {A:Option Addr} {c:Nat} (h:w.ownsRow base E 1 (.slice A n c) n (ds.map kdC)):KdAt w A ds:=fun hne=>by
 obtain ⟨g,rfl,_,hc⟩:=row_cells h (by intro e;exact hne (List.map_eq_nil_iff.1 e))
 refine ⟨g,0,rfl,fun i z hi=>?_⟩
 have:=hc i (kdC z) (by rw [List.getElem?_map,hi];rfl)
 simpa [kdC] using this
end
theorem fill_eight (C cells:Array Value) (hC:C.size=8) (hn:cells.size=8):Instr.fill (fun i=>some (i*8,8)) cells [(0,.agg C)]=some C:=by
 have:=Great.fill_whole (s:=8) (by omega) [.agg C] cells (fun v hv=>by simp at hv;subst hv;exact hC) (by simp [hn])
 simpa [Value.cells] using this
theorem fill_twoN (C cells:Array Value) (hC:C.size=2) (hn:cells.size=2):Instr.fill (fun i=>some (i*2,2)) cells [(0,.agg C)]=some C:=by
 have:=Great.fill_whole (s:=2) (by omega) [.agg C] cells (fun v hv=>by simp at hv;subst hv;exact hC) (by simp [hn])
 simpa [Value.cells] using this
theorem enC_one (e:EntD):∀ u ∈ enC e,u.oneCell'=true:=by
 intro u hu
 simp [enC] at hu
 rcases hu with rfl | rfl | rfl | rfl | rfl | rfl | rfl | rfl <;> rfl
theorem kyC_one (k:KeyD):∀ u ∈ kyC k,u.oneCell'=true:=by
 intro u hu
 simp [kyC] at hu
 rcases hu with rfl | rfl <;> rfl
section
variable {w W wr w1 w2:World} {Tout TE TK TD:TypeId} {g3:Nat} {lf:Bool} {vE vK vD v':Value} {kE kK nd:Nat} {es:List EntD} {ks:List KeyD} {ds:List Int}
theorem row_set {base sz n i:Nat} {v u:Value} {E T:TypeId} {us:List Value} {g:Nat} {cs:Array Value} (h:w.ownsRow base E sz v n us) (hg:w.heap[g]?=some (.cells cs T (0,0))) (hT:E≠T):(w.setCell ⟨g,i,none⟩ u).ownsRow base E sz v n us :=
 row_keep h (fun k cur _ hc=>Below.heap_setCell w ⟨g,i,none⟩ u k (fun e=>by
  have e':k=g:=e
  subst e'
  rw [hg] at hc
  injection hc with hc
  injection hc with _ hc
  exact hT hc.symm))
theorem KdAt.cells {A:Option Addr} (h:KdAt w A ds):CellsAt w A (ds.map kdC):=fun hne=>by
 obtain ⟨b,off,hA,hc⟩:=h (fun e=>hne (by rw [e];rfl))
 refine ⟨b,off,hA,fun k hk=>?_⟩
 have hk':k<ds.length:=by simpa using hk
 rw [hc k ds[k] (List.getElem?_eq_getElem hk')]
 simp [kdC]
theorem kdC_one (ds:List Int):∀ u ∈ ds.map kdC,u.oneCell'=true:=by
 intro u hu
 simp [kdC] at hu
 obtain ⟨a,_,rfl⟩:=hu
 rfl
theorem row_set4 {base sz n:Nat} {v a b c d:Value} {E T:TypeId} {us:List Value} {g:Nat} {cs:Array Value} (h:w.ownsRow base E sz v n us) (hg:w.heap[g]?=some (.cells cs T (0,0))) (hT:E≠T) :
 ((((w.setCell ⟨g,0,none⟩ a).setCell ⟨g,1,none⟩ b).setCell ⟨g,2,none⟩ c).setCell ⟨g,3,none⟩ d).ownsRow base E sz v n us:=by
 have h1:=row_set (i:=0) (u:=a) h hg hT
 have g1:=heap_setCell_same w g 0 cs T a hg
 have h2:=row_set (i:=1) (u:=b) h1 g1 hT
 have g2:=heap_setCell_same _ g 1 _ T b g1
 have h3:=row_set (i:=2) (u:=c) h2 g2 hT
 have g3:=heap_setCell_same _ g 2 _ T c g2
 exact row_set (i:=3) (u:=d) h3 g3 hT
end
end Go.Proofs.YtgkddhncfaeidaaGreat
namespace Go.Proofs.YtgkddhncfaeidaaGreat
open Go.RowKit
section
variable {P:Program} {w w2:World} {base sz n:Nat} {E:TypeId} {us vs:List Value}
theorem row_cases {v:Value} (h:w.ownsRow base E sz v n us):(v=.slice none 0 0∧n=0∧us=[])∨∃ g cap,v=.slice (some ⟨g,0,none⟩) n cap∧base≤g∧n≤cap∧cap≤maxLen:=by
 have hl:=h.1
 rcases h.2 with ⟨h1,h2⟩ | ⟨g,cap,cur,hv,hb,hh,h3,h4,_⟩
 ·subst h2
  rw [Nat.zero_mul] at hl
  exact .inl ⟨h1,rfl,List.eq_nil_of_length_eq_zero hl⟩
 ·exact .inr ⟨g,cap,hv,hb,h3,h4⟩
theorem run_append_row (t ty:TypeId) (ht:P.underlying t=some (.slice E)) (z:Value) (bytes:Nat) (hi:(P.info? E).map (fun i=>(i.zero,i.size,i.bytes))=some (some z,sz,bytes)) (hz1:z.cells.size=sz) (hsz:0<sz)
 {v:Value} (hown:w.ownsRow base E sz v n us) (A:Option Addr) (c m:Nat) (hm:vs.length=m*sz) (hA:CellsAt w A vs) (h1:∀ u ∈ vs,u.oneCell'=true) (hl:(n+m)*bytes≤140737488355328) (h63:n+m≤maxLen) (hbase:base≤w.heap.size) :
 ∃ A' c' w',(Builtin.append_ #[t,t] ty #[v,.slice A m c]).run P w=.ok (.slice A' (n+m) c') w'∧w'.ownsRow base E sz (.slice A' (n+m) c') (n+m) (us ++ vs)∧w.grownBy w' v.ownBlock:=by
 obtain ⟨i,hi0,hz,hs,hb⟩:=info_parts hi
 by_cases hy:vs=[]
 ·subst hy
  have hm0:m=0:=by
   have:m*sz=0:=by simpa using hm.symm
   rcases Nat.mul_eq_zero.1 this with h | h
   ·exact h
   ·omega
  subst hm0
  rcases row_cases hown with ⟨rfl,rfl,rfl⟩ | ⟨g,cap,rfl,h2,h3,h4⟩
  ·refine ⟨none,0,w,?_,by simpa using World.ownsRow_nil w base E sz,World.grownBy.refl w _⟩
   cases A <;> simp [Builtin.append_,run_underlying ht,sizeOf,typeInfo,hi0,Builtin.lenOf,Builtin.firstCells,loadCells,loadCellsFrom]
  ·refine ⟨some ⟨g,0,none⟩,cap,w,?_,by simpa using hown,World.grownBy.refl w _⟩
   cases A <;> simp [Builtin.append_,run_underlying ht,sizeOf,typeInfo,hi0,Builtin.lenOf,Builtin.firstCells,h3,storeCells,loadCells,loadCellsFrom]
 ·obtain ⟨ad,rfl,hc⟩:=hA.cells hy
  obtain ⟨v',w',hr,h2,h3,_,_⟩:=run_append_own_at (P:=P) w base t ty E i z sz bytes ht hi0 hz hs hb hz1 hsz v n us hown ad m c vs hm hc h1 h63 hl hbase
  rcases row_cases h2 with ⟨_,_,h4⟩ | ⟨g',cap',rfl,_⟩
  ·exact absurd (List.append_eq_nil_iff.1 h4).2 hy
  ·exact ⟨_,cap',w',hr,h2,h3⟩
theorem wpList_append_row {ops:Array Oper} {rest:List Oper} {o:Oper} {a:Act} {Q:Exit→Act→World→Prop} (hgd:o.guard=none) (s x:Operand) (t:TypeId)
 (ho:o.op=.call { callee:=.builtin .append,args:=#[s,x],argTypes:=#[t,t] }) (ht:P.underlying t=some (.slice E)) (z:Value) (bytes:Nat) (hi:(P.info? E).map (fun i=>(i.zero,i.size,i.bytes))=some (some z,sz,bytes)) (hz1:z.cells.size=sz) (hsz:0<sz)
 (v:Value) (hs:a.eval s=v) (hown:w.ownsRow base E sz v n us) (A:Option Addr) (c m:Nat) (hx:a.eval x=.slice A m c) (hm:vs.length=m*sz) (hA:CellsAt w A vs) (h1:∀ u ∈ vs,u.oneCell'=true)
 (hl:(n+m)*bytes≤140737488355328) (h63:n+m≤maxLen) (hbase:base≤w.heap.size) (k:Nat) (hk:n+m=k) (zs:List Value) (hzs:us ++ vs=zs)
 (h:∀ A' c' w',w'.ownsRow base E sz (.slice A' k c') k zs→w.grownBy w' v.ownBlock→wpList P ops Q rest (a.put o.dst (.slice A' k c')) w'):wpList P ops Q (o :: rest) a w :=
 wpList_plain hgd fun _ hK=>by
  subst hk hzs
  obtain ⟨A',c',w',hr,h2,h3⟩:=run_append_row (P:=P) t o.type ht z bytes hi hz1 hsz hown A c m hm hA h1 hl h63 hbase
  unfold Oper.wp execOp
  simp only [ho,resolve,invoke,builtin,Sem.run_bind,Sem.run_pure,Result.andThen_ok,List.map_toArray,List.map_cons,List.map_nil,hs,hx,hr]
  exact hK _ _ (h A' c' w' h2 h3)
theorem run_append_room (t tn ty:TypeId) (ht:P.underlying t=some (.slice E)) (k kn:IntKind) (htn:P.underlying tn=some (.int kn)) (z:Value) (bytes:Nat) (hi:(P.info? E).map (fun i=>(i.zero,i.size,i.bytes))=some (some z,sz,bytes)) (hz1:z.cells.size=sz) (hsz:0<sz)
 (m:Nat) (h0:0<m) (hl:m*bytes≤140737488355328) (hm:m≤140737488355328) (hby:0<bytes) :
 ∃ c' w',(Builtin.append_ #[t,tn] ty #[.slice none 0 0,.int k m]).run P w=.ok (.slice (some ⟨w.heap.size,0,none⟩) m c') w'∧w'.ownsRow w.heap.size E sz (.slice (some ⟨w.heap.size,0,none⟩) 0 c') 0 []∧m≤c'∧Below w.heap.size w w':=by
 obtain ⟨i,hi0,hz,hs,hb⟩:=info_parts hi
 have hw:IntKind.i64.wrap (m:Int)=m:=by rw [IntKind.wrap_i64];omega
 have hneg:¬ ((m:Int)<0):=by omega
 have hbig:¬ ((281474976710656:Int)<(m:Int)):=by omega
 have hm0:¬ m=0:=by omega
 have h63':¬ (9223372036854775807<(m:Int)):=by omega
 have h48':¬ (281474976710656<Builtin.nextslicecap m 0*bytes):=by
  have:=growslice_fits (need:=m) (old:=0) (bytes:=bytes) (by omega) (by omega)
  omega
 have hmb:¬ ((281474976710656:Int)<(m:Int)*(bytes:Int)):=by
  have:((m*bytes:Nat):Int)=(m:Int)*(bytes:Int):=by simp
  omega
 have hms:¬ m*sz=0:=by
  have:=Nat.mul_pos h0 hsz
  omega
 have hsz0:¬ sz=0:=by omega
 have hge:=grownCap_ge w m 0 E
 have hcm2:grownCap w m 0 E≤maxLen:=grownCap_le_maxLen w m 0 E (by unfold maxLen;omega)
 refine ⟨grownCap w m 0 E,w.drew.alloc (.cells (Builtin.zeroCells z.cells m ++ Builtin.zeroCells z.cells (grownCap w m 0 E - m)) E),?_,?_,hge,?_⟩
 ·simp [Builtin.append_,run_underlying ht,run_underlying htn,sizeOf,typeInfo,zeroValue,hi0,hz,hs,hb,asInt,asIntOf,hw,hneg,hm0,hmb,hms,h63',h48',Question.forced,newRow,grownCap,Builtin.firstCells]
 ·refine ⟨by simp,.inr ⟨w.heap.size,_,_,rfl,Nat.le_refl _,heap_alloc_new w.drew _,by omega,hcm2,?_,by simp⟩⟩
  rw [Array.size_append,size_zeroCells,size_zeroCells,hz1,← Nat.add_mul]
  congr 1
  omega
 ·exact ⟨rfl,rfl,rfl,by simp,fun k hk=>heap_alloc_old w.drew _ hk⟩
end
end Go.Proofs.YtgkddhncfaeidaaGreat
namespace Go.Proofs.YtgkddhncfaeidaaGreat
open Go.ChangeShapes Go.WideShapes Go.ChangeAt Go.RowKit CrcM PageM
theorem infoIntN:(Tryz.prog.info? 3).map (fun i=>(i.zero,i.size,i.bytes))=some (some (.int .i64 0),1,8):=by kernel_rfl
theorem infoEnt_to_any:(Tryz.prog.info? 40).map (fun i=>(i.zero,i.size,i.bytes))=some (some (.agg #[.int .i64 0,.int .i64 0,.int .i64 0,.int .i64 0,.int .i64 0,.int .i64 0,.int .i64 0,.int .u32 0]),8,64):=by kernel_rfl
theorem infoKey_to_any:(Tryz.prog.info? 38).map (fun i=>(i.zero,i.size,i.bytes))=some (some (.agg #[.int .i64 0,.int .i64 0]),2,16):=by kernel_rfl
end Go.Proofs.YtgkddhncfaeidaaGreat
