/- Squeezed: the texts as they are written lie in wip/tpl. -/
import Derived.Test.YtgkddhncfaeidaaGreatTiWy
import Derived.Test.YtgkddhncfaeidaaGreatPart25
import Derived.Test.YtgkddhncfaeidaaGreatPart09
import Derived.Test.YtgkddhncfaeidaaGreatPart22
set_option maxRecDepth 100000
set_option maxHeartbeats 8000000
set_option linter.unusedSimpArgs false
set_option linter.unusedVariables false
namespace Go.Proofs.YtgkddhncfaeidaaGreat
set_option linter.unnecessarySimpa false
open Go.RowKit Go.ChangeShapes Go.WideShapes Go.ChangeAt CrcM PageM
theorem eq_keyN (k:Nat) (hk:2≤k) (a b a' b':Int) (w:World):(Op.equalIn k 38 (.agg #[.int .i64 a,.int .i64 b]) (.agg #[.int .i64 a',.int .i64 b'])).run Tryz.prog w=.ok (a == a' && b == b') w:=by
 obtain ⟨d,rfl⟩:∃ d,k=d+1+1:=⟨k - 2,by omega⟩
 have ht:Tryz.prog.underlying 38=some (.struct (Tryz.prog.fieldsOf 38)):=by kernel_rfl
 have hp:Tryz.prog.stoodInHeld 38=false:=by kernel_rfl
 have hf:(Tryz.prog.fieldsOf 38).toList=[⟨"Series",3,0,false,"","",0⟩,⟨"Start",2,1,false,"","",8⟩]:=by kernel_rfl
 have h:=run_equalIn_agg (P:=Tryz.prog) w (d+1) 38 #[.int .i64 a,.int .i64 b] #[.int .i64 a',.int .i64 b'] ht hp
 rw [hf] at h
 rw [h]
 have hki:Tryz.prog.plainKey 3=true:=by kernel_rfl
 have hk6:Tryz.prog.plainKey 2=true:=by kernel_rfl
 have e0:=run_part_plain (P:=Tryz.prog) w hki (xs:=#[.int .i64 a,.int .i64 b]) (off:=0) (v:=.int .i64 a) rfl
 have e1:=run_part_plain (P:=Tryz.prog) w hk6 (xs:=#[.int .i64 a,.int .i64 b]) (off:=1) (v:=.int .i64 b) rfl
 have f0:=run_part_plain (P:=Tryz.prog) w hki (xs:=#[.int .i64 a',.int .i64 b']) (off:=0) (v:=.int .i64 a') rfl
 have f1:=run_part_plain (P:=Tryz.prog) w hk6 (xs:=#[.int .i64 a',.int .i64 b']) (off:=1) (v:=.int .i64 b') rfl
 have qi:=run_equalIn_int (P:=Tryz.prog) w d 3 .i64 .i64 a a' Tryz.underlying3
 have q6:=run_equalIn_int (P:=Tryz.prog) w d 2 .i64 .i64 b b' Tryz.underlying2
 obtain ⟨b0,hb0⟩:∃ x,x=(a == a'):=⟨_,rfl⟩
 obtain ⟨b1,hb1⟩:∃ x,x=(b == b'):=⟨_,rfl⟩
 rw [← hb0] at qi ⊢
 rw [← hb1] at q6 ⊢
 clear h hb0 hb1
 cases b0 <;> cases b1 <;> simp [Op.eqFields,Sem.run_bind,e0,e1,f0,f1,qi,q6]
theorem neq_keyN (a b c d:Int) (w:World):(binOp .neq 38 (.agg #[.int .i64 a,.int .i64 b]) (.agg #[.int .i64 c,.int .i64 d])).run Tryz.prog w=.ok (.bool (!(a == c && b == d))) w:=by
 rw [run_neq_struct,eq_keyN 10000 (by decide) a b c d w]
 rfl
theorem guard_keyN (op:BinOp) (x y:Operand) (C D:Array Value) (w:World):(eqGuard op 38 x y (.agg C) (.agg D)).run Tryz.prog w=.ok () w:=run_eqGuard_agg w op _ x y C D (by kernel_rfl)
def zeV:Value:=.agg #[.int .i64 0,.int .i64 0,.int .i64 0,.int .i64 0,.int .i64 0,.int .i64 0,.int .i64 0,.int .u32 0]
def knV (es:List EntD) (r:Nat) (k:KeyD):List Value:=match es[r]? with
 | none=>[zeV,.bool false]
 | some e=>if e.se=k.se∧e.st=k.st then [enV e,.bool true] else [zeV,.bool false]
theorem known_last (pre:List StepM) (x:StepM) (A:Option Addr) (c n base:Nat) (k:KeyD) (w:World) (hl:n=pre.length+1) (hn:n≤1000) (hr:w.ownsRow base 96 6 (.slice A n c) n ((pre ++ [x]).flatMap stC)) (hx:NodeAt w x.s.n x.l) (he:x.s.n.es.length≤1000000) (hat:x.s.at_≤x.s.n.es.length) :
 Calls Tryz.prog 36 #[.slice A n c,.agg #[.int .i64 k.se,.int .i64 k.st]] w fun e w'=>e=.returned (.tuple (knV x.s.n.es x.s.at_ k).toArray)∧Below w.heap.size w w':=by
 obtain ⟨⟨a,N,r⟩,l⟩:=x
 dsimp only at hx he hat ⊢
 obtain ⟨g,hA,_,hc⟩:=row_cells hr (by simp [stC])
 subst hA
 obtain ⟨i,hi⟩:∃ i,i=pre.length:=⟨_,rfl⟩
 have hpl:(pre.flatMap stC).length=i*6:=by
  rw [hi]
  clear hr hc hl hi
  induction pre with
  | nil=>rfl
  | cons p pre ih=>rw [List.flatMap_cons,List.length_append,ih,List.length_cons];simp only [stC,List.length_cons,List.length_nil];omega
 have hcc:∀ (j:Nat) (u:Value),(stC ⟨⟨a,N,r⟩,l⟩)[j]?=some u→w.cell? ⟨g,i*6+j,none⟩=some u:=fun j u hu=>by
  refine hc (i*6+j) u ?_
  rw [List.flatMap_append,List.getElem?_append_right (by rw [hpl];omega),hpl,Nat.add_sub_cancel_left]
  simpa using hu
 have hgl:g<w.heap.size:=World.block_lt_of_cell? _ _ (hcc 0 _ rfl)
 obtain ⟨w1,hw1⟩:∃ w1,w1=(w.alloc (.cells #[.int .i64 k.se,.int .i64 k.st] 38)).alloc (.cells #[.int .i64 0,.int .i64 0,.int .i64 0,.int .i64 0,.int .i64 0,.int .i64 0,.int .i64 0,.int .u32 0] 40):=⟨_,rfl⟩
 have G1:Hid (w1.heap[w.heap.size]?=some (.cells #[.int .i64 k.se,.int .i64 k.st] 38 (0,0))):=Lib.hid (by rw [hw1];exact heap_alloc2_old _ _ _)
 have G2:Hid (w1.heap[w.heap.size+1]?=some (.cells #[.int .i64 0,.int .i64 0,.int .i64 0,.int .i64 0,.int .i64 0,.int .i64 0,.int .i64 0,.int .u32 0] 40 (0,0))):=Lib.hid (by rw [hw1];exact heap_alloc2_new _ _ _)
 have B1:Hid (Below w.heap.size w w1):=Lib.hid (by rw [hw1];exact below_two (Below.refl _ _))
 have HX:=Lib.hid hx
 have HE:=Lib.hid he
 have HA:=Lib.hid hat
 obtain ⟨lf,hlf⟩:∃ lf,lf=N.leaf:=⟨_,rfl⟩
 obtain ⟨ne,hne⟩:∃ ne,ne=N.es.length:=⟨_,rfl⟩
 obtain ⟨nk,hnk⟩:∃ nk,nk=N.ks.length:=⟨_,rfl⟩
 obtain ⟨nd,hnd⟩:∃ nd,nd=N.ds.length:=⟨_,rfl⟩
 have c0:=(B1.out.cell (p:=⟨g,i*6,none⟩) hgl).trans (hcc 0 _ rfl)
 have c1:=(B1.out.cell (p:=⟨g,i*6+1,none⟩) hgl).trans (hcc 1 _ rfl)
 have c2:=(B1.out.cell (p:=⟨g,i*6+2,none⟩) hgl).trans (hcc 2 _ rfl)
 have c3:=(B1.out.cell (p:=⟨g,i*6+3,none⟩) hgl).trans (hcc 3 _ rfl)
 have c4:=(B1.out.cell (p:=⟨g,i*6+4,none⟩) hgl).trans (hcc 4 _ rfl)
 have c5:=(B1.out.cell (p:=⟨g,i*6+5,none⟩) hgl).trans (hcc 5 _ rfl)
 dsimp only at c0 c1 c2 c3 c4 c5
 rw [← hlf] at c1
 rw [← hne] at c2
 rw [← hnk] at c3
 rw [← hnd] at c4
 have HNE:=Lib.hid hne
 have e0:(n:Int) - 1=(i:Int):=by omega
 have e1:(i:Int)<(n:Int):=by omega
 have e2:((n:Int) == 0)=false:=by simp;omega
 have hn2:(n:Int)≤1000:=by omega
 have HW1:=Lib.hid hw1
 obtain ⟨kse,hks⟩:∃ x,x=k.se:=⟨_,rfl⟩
 obtain ⟨kst,hkt⟩:∃ x,x=k.st:=⟨_,rfl⟩
 rw [← hks,← hkt] at HW1 G1
 rw [← hks,← hkt]
 have HKE:=Lib.hid hks
 have HKT:=Lib.hid hkt
 clear hw1 hx he hat hlf hne hnk hnd hr hc hcc hi hpl hl hn hks hkt
 go_enter Tryz.func36,Tryz.ntmps36
 go_upto_region 1 with fail
 rw [← HW1.out]
 clear HW1
 go_upto_region 4 with fail
 obtain ⟨w2,hw2⟩:∃ w2,w2=w1.alloc (.cells #[.int .i64 (a:Int),.bool lf,.slice l.EA ne l.ec,.slice l.KA nk l.kc,.slice l.DA nd l.dc,.int .i64 (r:Int)] 96):=⟨_,rfl⟩
 obtain ⟨gs,hgs⟩:∃ gs,gs=w1.heap.size:=⟨_,rfl⟩
 have GS:Hid (w2.heap[gs]?=some (.cells #[.int .i64 (a:Int),.bool lf,.slice l.EA ne l.ec,.slice l.KA nk l.kc,.slice l.DA nd l.dc,.int .i64 (r:Int)] 96 (0,0))):=Lib.hid (by rw [hw2,hgs];exact heap_alloc_new _ _)
 have B2:=Lib.hid (alloc_bel hw2)
 rw [← hw2,← hgs]
 clear hw2 hgs c0 c1 c2 c3 c4 c5 e0 e1 e2
 have K2:=Lib.hid (row_stays G1.out B2.out)
 have R2:=Lib.hid (row_stays G2.out B2.out)
 have BB:=Lib.hid (B1.out.trans (B2.out.mono B1.out.size))
 have X2:=Lib.hid (HX.out.below BB.out)
 have z2:∀ y:SubW w2.heap.size w2,y.at_.cell? ⟨gs,2,none⟩=some (.slice l.EA ne l.ec):=fun y=>nd_cell (row_stays GS.out y.ok_) 2 _ rfl
 have z5:∀ y:SubW w2.heap.size w2,y.at_.cell? ⟨gs,5,none⟩=some (.int .i64 (r:Int)):=fun y=>nd_cell (row_stays GS.out y.ok_) 5 _ rfl
 have zk:∀ y:SubW w2.heap.size w2,y.at_.heap[w.heap.size]?=some (.cells #[.int .i64 kse,.int .i64 kst] 38 (0,0)):=fun y=>row_stays K2.out y.ok_
 by_cases hrn:r=ne
 ·have q1:((r:Int) == (ne:Int))=true:=by simp;omega
  have HKV:Hid (knV N.es r k=[zeV,.bool false]):=Lib.hid (by
   unfold knV
   rw [List.getElem?_eq_none (by rw [← HNE.out,hrn];exact Nat.le_refl _)])
  clear hrn
  refine region_below w2.heap.size w2 (Below.refl _ _) (by kernel_rfl) (by kernel_rfl) ?_
  repeat (go_big_quiet_step (fail))
  refine wpQuiet_nil ?_
  rintro w' ⟨y,rfl⟩
  clear z2 z5 zk
  have RY:=Lib.hid (row_stays R2.out y.ok_)
  go_wp2_with (refine wpList_store_row rfl 40 (.tmp 4) (.tmp 36) rfl (w.heap.size+1) _ rfl rfl 40 _ RY.out (by kernel_rfl) rfl (by simp [Value.oneCell']) ?_)
  rw [HKV.out]
  refine bodyPost_ret (v:=.tuple #[zeV,.bool false]) (results_cell_tmpB (p:=4) (u:=5) (ty:=40) rfl _ _ (w.heap.size+1) 40 _ (0,0) _ rfl (setRow_heap _ _ _ _ _ _ RY.out) Tryz.underlying40 rfl (by kernel_rfl)) rfl ⟨rfl,?_⟩
  exact below_setRow (BB.out.trans (y.ok_.mono BB.out.size)) (Nat.le_succ _) _
 ·have hr2:r<ne:=by have:=HA.out;have:=HNE.out;omega
  have q1:((r:Int) == (ne:Int))=false:=by simp;omega
  obtain ⟨x,hx⟩:∃ x,N.es[r]?=some x:=⟨_,List.getElem?_eq_getElem (by rw [← HNE.out];exact hr2)⟩
  obtain ⟨b,off,hEA,hc⟩:=X2.out.e (by intro e';rw [e'] at hx;simp at hx)
  rw [hEA] at z2
  obtain ⟨c0,c1,c2,c3,c4,c5,c6,c7⟩:=hc r x hx
  have hl0:=World.block_lt_of_cell? _ _ c0
  have P0:∀ y:SubW w2.heap.size w2,y.at_.cell? ⟨b,off+r*8,none⟩=some (.int .i64 x.se):=fun y=>(y.ok_.cell (p:=⟨b,off+r*8,none⟩) hl0).trans c0
  have P1:∀ y:SubW w2.heap.size w2,y.at_.cell? ⟨b,off+r*8+1,none⟩=some (.int .i64 x.st):=fun y=>(y.ok_.cell (p:=⟨b,off+r*8+1,none⟩) hl0).trans c1
  have h1:(r:Int)<(ne:Int):=by omega
  have CE:=Lib.hid (hc r x hx)
  obtain ⟨d,hd⟩:∃ d,d=(x.se == kse && x.st == kst):=⟨_,rfl⟩
  have HNQ:Hid (∀ W,(binOp .neq 38 (.agg #[.int .i64 x.se,.int .i64 x.st]) (.agg #[.int .i64 kse,.int .i64 kst])).run Tryz.prog W=.ok (.bool (!d)) W):=Lib.hid (fun W=>by rw [hd];exact neq_keyN _ _ _ _ W)
  have HKV:Hid (knV N.es r k=if d=true then [enV x,.bool true] else [zeV,.bool false]):=Lib.hid (by
   unfold knV
   rw [hx,hd,HKE.out,HKT.out]
   simp only [Bool.and_eq_true,beq_iff_eq])
  clear hd
  have HXE:=Lib.hid hx
  have HRN:=Lib.hid hrn
  clear hrn hr2 hx hc c0 c1 c2 c3 c4 c5 c6 c7 hl0
  refine region_below w2.heap.size w2 (Below.refl _ _) (by kernel_rfl) (by kernel_rfl) ?_
  repeat (first
   | (go_big_quiet_want;refine quiet_load_row 38 (.tmp 3) rfl w.heap.size rfl 38 _ (0,0) _ zk Tryz.underlying38 rfl (by kernel_rfl) ?_;simp only [Act.put,List.setIfInBounds_toArray,List.set_cons_zero,List.set_cons_succ];go_big_quiet_on)
   | (go_big_quiet_want;refine quiet_binOpN .neq 38 (.tmp 32) (.tmp 33) 38 rfl (.agg #[.int .i64 x.se,.int .i64 x.st]) (.agg #[.int .i64 kse,.int .i64 kst]) (.bool (!d)) rfl rfl (fun W=>guard_keyN _ _ _ _ _ W) HNQ.out ?_;simp only [Act.put,List.setIfInBounds_toArray,List.set_cons_zero,List.set_cons_succ];go_big_quiet_on)
   | go_big_quiet_step (fail))
  refine wpQuiet_nil ?_
  rintro w' ⟨y,rfl⟩
  have K2y:=Lib.hid ((y.ok_.cell (p:=⟨b,off+r*8,none⟩) (CE.out.lt)).trans CE.out.1)
  cases d
  ·rw [show (if false=true then [enV x,.bool true] else [zeV,.bool false])=[zeV,.bool false] from rfl] at HKV
   clear z2 z5 zk
   have RY:=Lib.hid (row_stays R2.out y.ok_)
   go_wp2_with (refine wpList_store_row rfl 40 (.tmp 4) (.tmp 36) rfl (w.heap.size+1) _ rfl rfl 40 _ RY.out (by kernel_rfl) rfl (by simp [Value.oneCell']) ?_)
   rw [HKV.out]
   refine bodyPost_ret (v:=.tuple #[zeV,.bool false]) (results_cell_tmpB (p:=4) (u:=5) (ty:=40) rfl _ _ (w.heap.size+1) 40 _ (0,0) _ rfl (setRow_heap _ _ _ _ _ _ RY.out) Tryz.underlying40 rfl (by kernel_rfl)) rfl ⟨rfl,?_⟩
   exact below_setRow (BB.out.trans (y.ok_.mono BB.out.size)) (Nat.le_succ _) _
  ·rw [show (if true=true then [enV x,.bool true] else [zeV,.bool false])=[enV x,.bool true] from rfl] at HKV
   have y2:=z2 y
   have y5:=z5 y
   have ce:=CE.out.below y.ok_
   obtain ⟨c0,c1,c2,c3,c4,c5,c6,c7⟩:=ce
   clear z2 z5 zk
   have RY:=Lib.hid (row_stays R2.out y.ok_)
   go_wp2_with (refine wpList_store_row rfl 40 (.tmp 4) (.tmp 43) rfl (w.heap.size+1) _ rfl rfl 40 _ RY.out (by kernel_rfl) rfl (by simp [Value.oneCell']) ?_)
   rw [HKV.out]
   refine bodyPost_ret (v:=.tuple #[enV x,.bool true]) (results_cell_tmpB (p:=4) (u:=5) (ty:=40) rfl _ _ (w.heap.size+1) 40 _ (0,0) _ rfl (setRow_heap _ _ _ _ _ _ RY.out) Tryz.underlying40 rfl (by kernel_rfl)) rfl ⟨rfl,?_⟩
   exact below_setRow (BB.out.trans (y.ok_.mono BB.out.size)) (Nat.le_succ _) _
end Go.Proofs.YtgkddhncfaeidaaGreat
namespace Go.Proofs.YtgkddhncfaeidaaGreat
open Go.ChangeShapes Go.WideShapes Go.ChangeAt Go.RowKit CrcM PageM
theorem Tre.least {rd:Nat→NodeD→Prop}:∀ {h:Nat} {n:NodeD} {es:List EntD},Tre rd h n es→1≤es.length→∃ e,es[0]?=some e∧leastK n=e.key
 | 0,n,es,⟨h1,h2,_,_⟩,hl=>by
   subst h2
   obtain ⟨e,t,he⟩:∃ e t,n.es=e :: t:=by
    cases hn:n.es with
    | nil=>rw [hn] at hl;simp at hl
    | cons e t=>exact ⟨e,t,rfl⟩
   refine ⟨e,by rw [he];rfl,?_⟩
   unfold leastK
   rw [if_pos h1,he]
   rfl
 | h+1,n,es,⟨h1,h2,parts,e1,e2,e3,e4,e5⟩,hl=>by
   obtain ⟨x,t,hp⟩:∃ x t,parts=x :: t:=by
    cases parts with
    | nil=>simp at e5
    | cons x t=>exact ⟨x,t,rfl⟩
   subst hp
   have hx:=e3 x (List.mem_cons_self ..)
   obtain ⟨e,h3,h4⟩:=Tre.least hx.2.1 hx.2.2
   refine ⟨e,?_,?_⟩
   ·rw [e4,List.flatMap_cons,List.getElem?_append_left hx.2.2]
    exact h3
   ·rw [← h4]
    unfold leastK
    rw [if_neg (by simp [h1]),e2]
    rfl
def Up (es:List EntD):Prop:=es.Pairwise (fun a b=>lessB a.key b.key=true)
theorem Up.head {es:List EntD} (h:Up es) {e f:EntD} (he:es[0]?=some e) (hf:f ∈ es):f=e∨lessB e.key f.key=true:=by
 cases es with
 | nil=>cases hf
 | cons x t =>
   cases he
   rcases List.mem_cons.1 hf with hf | hf
   ·exact .inl hf
   ·exact .inr ((List.pairwise_cons.1 h).1 f hf)
theorem Up.part {parts:List (Nat × (NodeD × List EntD))} (h:Up (parts.flatMap fun x=>x.2.2)):(∀ x ∈ parts,Up x.2.2)∧∀ (i j:Nat) (x y:Nat × (NodeD × List EntD)),i<j→parts[i]?=some x→parts[j]?=some y→∀ e ∈ x.2.2,∀ f ∈ y.2.2,lessB e.key f.key=true:=by
 induction parts with
 | nil=>exact ⟨fun x hx=>(by cases hx),fun i j x y _ hx=>(by simp at hx)⟩
 | cons z t ih =>
   unfold Up at h
   rw [List.flatMap_cons,List.pairwise_append] at h
   obtain ⟨h1,h2,h3⟩:=h
   obtain ⟨i1,i2⟩:=ih h2
   refine ⟨fun x hx=>?_,fun i j x y hij hx hy e he f hf=>?_⟩
   ·rcases List.mem_cons.1 hx with hx | hx
    ·rw [hx];exact h1
    ·exact i1 x hx
   ·cases j with
    | zero=>omega
    | succ j =>
      rw [List.getElem?_cons_succ] at hy
      cases i with
      | zero =>
        rw [List.getElem?_cons_zero] at hx
        cases hx
        exact h3 e he f (List.mem_flatMap.2 ⟨y,List.mem_of_getElem? hy,hf⟩)
      | succ i =>
        rw [List.getElem?_cons_succ] at hx
        exact i2 i j x y (by omega) hx hy e he f hf
theorem Down.last {rd:Nat→NodeD→Prop} {k:KeyD}:∀ {h a:Nat} {n:NodeD} {es:List EntD} {ss:List StepD},rd a n→Tre rd h n es→Up es→Down rd k h a n es ss →
 ∃ pre s,ss=pre ++ [s]∧rd s.a s.n∧s.n.leaf=true∧PlaceOf s.n k s.at_∧Up s.n.es∧(∀ e ∈ s.n.es,e ∈ es)∧∀ e ∈ es,e.key=k→e ∈ s.n.es
 | 0,a,n,es,ss,hr,⟨h1,h2,_,_⟩,hu,⟨r,hp,e⟩=>⟨[],⟨a,n,r⟩,e,hr,h1,hp,by rw [h2];exact hu,fun e he=>by rw [← h2];exact he,fun e he _=>by rw [h2];exact he⟩
 | h+1,a,n,es,ss,hr,⟨h1,h2,_⟩,hu,⟨r,parts,x,ss',hp,e1,e2,e3,e4,hx,hd,e⟩=>by
   rw [e4] at hu
   obtain ⟨u1,u2⟩:=hu.part
   have hxm:=List.mem_of_getElem? hx
   have h3:=e3 x hxm
   obtain ⟨pre,s,k1,k2,k3,k4,k5,k6,k7⟩:=Down.last h3.1 h3.2.1 (u1 x hxm) hd
   refine ⟨⟨a,n,r⟩ :: pre,s,by rw [e,k1];rfl,k2,k3,k4,k5,fun e he=>by rw [e4];exact List.mem_flatMap.2 ⟨x,hxm,k6 e he⟩,fun e he hk=>k7 e ?_ hk⟩
   rw [e4] at he
   obtain ⟨y,hy,hey⟩:=List.mem_flatMap.1 he
   obtain ⟨j,hj⟩:=List.mem_iff_getElem?.1 hy
   unfold PlaceOf at hp
   rw [if_neg (by simp [h1]),e2] at hp
   rcases Nat.lt_trichotomy j r with hjr | hjr | hjr
   ·exfalso
    rcases hp.at_ with h0 | ⟨z,hz,hlt⟩
    ·omega
    ·rw [List.getElem?_map,hx] at hz
     cases hz
     obtain ⟨f,hf,hfe⟩:=h3.2.1.least h3.2.2
     have h9:=u2 j r y x hjr hj hx e hey f (List.mem_of_getElem? hf)
     rw [hk,← hfe,hlt] at h9
     cases h9
   ·subst hjr
    rw [hx] at hj
    cases hj
    exact hey
   ·exfalso
    have h4:=e3 y hy
    obtain ⟨f,hf,hfe⟩:=h4.2.1.least h4.2.2
    have h9:=hp.hi j (leastK y.2.1) hjr (by rw [List.getElem?_map,hj];rfl)
    rw [hfe] at h9
    rcases (u1 y hy).head hf hey with h8 | h8
    ·rw [h8] at hk
     rw [hk,lessB_irrefl] at h9
     cases h9
    ·rw [hk] at h8
     rw [lessB_asymm h8] at h9
     cases h9
theorem at_place {es:List EntD} {k:KeyD} {r:Nat} (hu:Up es) (hp:LbOf (es.map EntD.key) k r) {e:EntD} (he:e ∈ es) (hk:e.key=k):es[r]?=some e:=by
 obtain ⟨j,hj⟩:=List.mem_iff_getElem?.1 he
 have hjk:(es.map EntD.key)[j]?=some k:=by rw [List.getElem?_map,hj,← hk];rfl
 rcases Nat.lt_trichotomy j r with h | h | h
 ·have:=hp.lo j k h hjk
  rw [lessB_irrefl] at this
  cases this
 ·rw [← h];exact hj
 ·obtain ⟨f,hf⟩:∃ f,es[r]?=some f:=⟨_,List.getElem?_eq_getElem (by have:=(List.getElem?_eq_some_iff.1 hj).1;omega)⟩
  have h1:=hp.hi r f.key (Nat.le_refl _) (by rw [List.getElem?_map,hf];rfl)
  have h2:=List.pairwise_iff_getElem.1 hu r j (List.getElem?_eq_some_iff.1 hf).1 (List.getElem?_eq_some_iff.1 hj).1 h
  rw [(List.getElem?_eq_some_iff.1 hf).2,(List.getElem?_eq_some_iff.1 hj).2,hk,h1] at h2
  cases h2
end Go.Proofs.YtgkddhncfaeidaaGreat
namespace Go.Proofs.YtgkddhncfaeidaaGreat
open Go.RowKit Go.ChangeShapes Go.WideShapes Go.ChangeAt CrcM PageM
def atK (es:List EntD) (k:KeyD):Option EntD:=es.find? (fun e=>e.se == k.se && e.st == k.st)
theorem atK_key {es:List EntD} {k:KeyD} {e:EntD} (h:atK es k=some e):e ∈ es∧e.key=k:=by
 have h1:=List.mem_of_find?_eq_some h
 have h2:=List.find?_some h
 simp only [Bool.and_eq_true,beq_iff_eq] at h2
 refine ⟨h1,?_⟩
 cases k
 unfold EntD.key
 rw [h2.1,h2.2]
theorem atK_none {es:List EntD} {k:KeyD} (h:atK es k=none) {e:EntD} (he:e ∈ es):¬ (e.se=k.se∧e.st=k.st):=by
 have h1:=List.find?_eq_none.1 h e he
 simpa using h1
theorem knV_at {es ls:List EntD} {k:KeyD} {r:Nat} (hu:Up ls) (hp:LbOf (ls.map EntD.key) k r) (h1:∀ e ∈ ls,e ∈ es) (h2:∀ e ∈ es,e.key=k→e ∈ ls):knV ls r k=match atK es k with
 | some e=>[enV e,.bool true]
 | none=>[zeV,.bool false]:=by
 cases hk:atK es k with
 | some e =>
   obtain ⟨h3,h4⟩:=atK_key hk
   have h5:=at_place hu hp (h2 e h3 h4) h4
   have h6:e.se=k.se∧e.st=k.st:=by rw [← h4];exact ⟨rfl,rfl⟩
   unfold knV
   rw [h5]
   simp only [if_pos h6]
 | none =>
   unfold knV
   cases hr:ls[r]? with
   | none=>rfl
   | some e =>
     have h5:=atK_none hk (h1 e (List.mem_of_getElem? hr))
     simp only [if_neg h5]
def TreeQ (nw:List UInt8) (Ls a hh:Nat) (es:List EntD):Prop :=
 (es=[]∧hh=0)∨∃ h n,hh=h+1∧h≤4∧Tre (rdQ nw Ls) h n es∧rdQ nw Ls a n∧1≤es.length
theorem way_nil (gv g gen p:Nat) (a:Int) (U V:List Bool) (k:KeyD) (w:World) (hv:ViewAt w gv g gen (p:Int) U V) :
 Calls Tryz.prog 35 #[.pointer (some ⟨gv,0,none⟩),.agg #[.int .i64 a,.int .i64 0],.agg #[.int .i64 k.se,.int .i64 k.st]] w fun e w'=>e=.returned (.tuple #[.slice none 0 0,.int .i64 0])∧Below w.heap.size w w':=by
 have HV:=Lib.hid hv
 clear hv
 obtain ⟨w1,hw1⟩:∃ w1,w1=(w.alloc (.cells #[.int .i64 a,.int .i64 0] 43)).alloc (.cells #[.int .i64 k.se,.int .i64 k.st] 38):=⟨_,rfl⟩
 have G1:Hid (w1.heap[w.heap.size]?=some (.cells #[.int .i64 a,.int .i64 0] 43 (0,0))):=Lib.hid (by rw [hw1];exact heap_alloc2_old _ _ _)
 have B1:Hid (Below w.heap.size w w1):=Lib.hid (by rw [hw1];exact below_two (Below.refl _ _))
 have HW1:=Lib.hid hw1
 clear hw1
 go_enter Tryz.func35,Tryz.ntmps35
 go_upto_region 1 with fail
 rw [← HW1.out]
 clear HW1
 go_upto_region 5 with (first
  | (refine wpList_load_row rfl 43 (.tmp 4) rfl w.heap.size rfl 43 _ (0,0) _ G1.out Tryz.underlying43 rfl (by kernel_rfl) ?_)
  | (go_at_call 56;refine (trefused_ok gv g gen p U V _ _ (by omega) (by omega) _ (HV.out.below B1.out)).mono ?_;rintro e w2 ⟨rfl,hb2⟩;have RB:=Lib.hid hb2;clear hb2))
 have g1:=row_stays G1.out RB.out
 have z0:=nd_cell g1 0 (.int .i64 a) rfl
 have z1:=nd_cell g1 1 (.int .i64 0) rfl
 have B2:=Lib.hid (B1.out.trans (RB.out.mono B1.out.size))
 clear g1 G1
 go_upto_region 7 with fail
 go_loopw [9,10,11] (fun vv av hv wr=>vv=.slice none 0 0∧av=.int .i64 a∧hv=.int .i64 0∧Hid (Below w.heap.size w wr)) (fun _ _ _ _=>0)
 case atStart=>exact ⟨rfl,rfl,rfl,B2⟩
 case round =>
  obtain ⟨rfl,rfl,rfl,HB⟩:=hrel
  go_wp2_with fail
  go_ret2
  exact ⟨rfl,HB.out⟩
theorem known_nil (c:Nat) (k:KeyD) (w:World) :
 Calls Tryz.prog 36 #[.slice none 0 c,.agg #[.int .i64 k.se,.int .i64 k.st]] w fun e w'=>e=.returned (.tuple #[zeV,.bool false])∧Below w.heap.size w w':=by
 obtain ⟨w1,hw1⟩:∃ w1,w1=(w.alloc (.cells #[.int .i64 k.se,.int .i64 k.st] 38)).alloc (.cells #[.int .i64 0,.int .i64 0,.int .i64 0,.int .i64 0,.int .i64 0,.int .i64 0,.int .i64 0,.int .u32 0] 40):=⟨_,rfl⟩
 have G2:Hid (w1.heap[w.heap.size+1]?=some (.cells #[.int .i64 0,.int .i64 0,.int .i64 0,.int .i64 0,.int .i64 0,.int .i64 0,.int .i64 0,.int .u32 0] 40 (0,0))):=Lib.hid (by rw [hw1];exact heap_alloc2_new _ _ _)
 have B1:Hid (Below w.heap.size w w1):=Lib.hid (by rw [hw1];exact below_two (Below.refl _ _))
 have HW1:=Lib.hid hw1
 clear hw1
 go_enter Tryz.func36,Tryz.ntmps36
 go_upto_region 1 with fail
 rw [← HW1.out]
 clear HW1
 go_wp2_with (refine wpList_store_row rfl 40 (.tmp 4) (.tmp 10) rfl (w.heap.size+1) _ rfl rfl 40 _ G2.out (by kernel_rfl) rfl (by simp [Value.oneCell']) ?_)
 refine bodyPost_ret (v:=.tuple #[zeV,.bool false]) (results_cell_tmpB (p:=4) (u:=5) (ty:=40) rfl _ _ (w.heap.size+1) 40 _ (0,0) _ rfl (setRow_heap _ _ _ _ _ _ G2.out) Tryz.underlying40 rfl (by kernel_rfl)) rfl ⟨rfl,?_⟩
 exact below_setRow B1.out (Nat.le_succ _) _
theorem wayK_any (gv g gen p a hh:Nat) (U V:List Bool) {B N gs gn Ls cs cn:Nat} {rw:Value} {st nw:List UInt8} {ws:List (Nat × List UInt8)} (es:List EntD) (k:KeyD) (ht:TreeQ nw Ls a hh es) (hu:Up es) (w:World) (hv:ViewAt w gv g gen (p:Int) U V) (hd:Dk w B N g gs gn rw Ls cs cn st nw ws true (-1)) (W:World) (hW:Below w.heap.size w W) :
 Calls Tryz.prog 35 #[.pointer (some ⟨gv,0,none⟩),.agg #[.int .i64 (a:Int),.int .i64 (hh:Int)],.agg #[.int .i64 k.se,.int .i64 k.st]] W fun e w'=>∃ (A:Option Addr) (n c:Nat),e=.returned (.tuple #[.slice A n c,.int .i64 0])∧Below W.heap.size W w'∧∀ X,Below w'.heap.size w' X→Calls Tryz.prog 36 #[.slice A n c,.agg #[.int .i64 k.se,.int .i64 k.st]] X fun e w''=>e=.returned (.tuple (match atK es k with
  | some x=>#[enV x,.bool true]
  | none=>#[zeV,.bool false]))∧Below X.heap.size X w'':=by
 rcases ht with ⟨h1,h2⟩ | ⟨h,n,h1,h2,h3,h4,h5⟩
 ·subst h1 h2
  refine (way_nil gv g gen p (a:Int) U V k W (hv.below hW)).mono ?_
  rintro e w' ⟨rfl,hb⟩
  exact ⟨none,0,0,rfl,hb,fun X hX=>known_nil 0 k X⟩
 ·refine (way_yes gv g gen p a h U V n es k h4 h3 h5 h2 W (hv.below hW) (hd.below hW) (hh:Int) (by omega)).mono ?_
  rintro e w' ⟨pre,A,c,rfl,hs,hdn⟩
  refine ⟨A,pre.length,c,rfl,hs.bel,fun X hX=>?_⟩
  have hlen:=hdn.len
  obtain ⟨pd,s,k1,k2,k3,k4,k5,k6,k7⟩:=hdn.last h4 h3 hu
  rw [k1] at hlen
  obtain ⟨pre',xs,e1,e2,e3⟩:=List.map_eq_append_iff.1 k1
  obtain ⟨x,e4,e5⟩:∃ x,xs=[x]∧x.s=s:=by
   cases xs with
   | nil=>simp at e3
   | cons x t =>
     cases t with
     | nil=>exact ⟨x,rfl,by simpa using e3⟩
     | cons y t=>simp at e3
  subst e4
  unfold PlaceOf at k4
  rw [if_pos k3] at k4
  have hpl:pre.length=pre'.length+1:=by rw [e1,List.length_append];rfl
  have hS:=hs.below hX
  have hrow:=hS.row
  rw [e1] at hrow
  rw [e1]
  have hx:=(hS.nod x (by rw [e1];simp)).own.at
  rw [← e5] at k2 k3 k4 k5 k6 k7
  have hup:=rdQ_up k2 k
  have hkn:=known_last pre' x A c (pre' ++ [x]).length _ k X (by rw [List.length_append];rfl) (by rw [List.length_append] at hlen ⊢;have:=congrArg List.length e2;rw [List.length_map] at this;simp at hlen ⊢;omega) hrow hx hup.1 (by have:=k4.le;rw [List.length_map] at this;exact this)
  refine hkn.mono ?_
  rintro e w'' ⟨rfl,hb⟩
  refine ⟨?_,hb⟩
  rw [knV_at k5 k4 k6 k7]
  cases atK es k <;> rfl
theorem find_any (gv g gen p a hh:Nat) (U V:List Bool) {B N gs gn Ls cs cn:Nat} {rw:Value} {st nw:List UInt8} {ws:List (Nat × List UInt8)} (es:List EntD) (k:KeyD) (ht:TreeQ nw Ls a hh es) (hu:Up es) (w:World) (hv:ViewAt w gv g gen (p:Int) U V) (hd:Dk w B N g gs gn rw Ls cs cn st nw ws true (-1)) :
 Calls Tryz.prog 14 #[.pointer (some ⟨gv,0,none⟩),.agg #[.int .i64 (a:Int),.int .i64 (hh:Int)],.agg #[.int .i64 k.se,.int .i64 k.st]] w fun e w'=>e=.returned (.tuple (match atK es k with
  | some x=>#[enV x,.int .i64 0]
  | none=>#[zeV,.int .i64 10]))∧Below w.heap.size w w':=by
 have HWY:=Lib.hid (fun W hW=>wayK_any gv g gen p a hh U V es k ht hu w hv hd W hW)
 clear ht hu hv hd
 obtain ⟨o,ho⟩:∃ o,o=atK es k:=⟨_,rfl⟩
 rw [← ho] at HWY ⊢
 clear ho
 obtain ⟨hi,hhi⟩:∃ hi:Int,hi=(hh:Int):=⟨_,rfl⟩
 rw [← hhi] at HWY ⊢
 clear hhi
 obtain ⟨w3,hw3⟩:∃ w3,w3=((w.alloc (.cells #[.int .i64 (a:Int),.int .i64 hi] 43)).alloc (.cells #[.int .i64 k.se,.int .i64 k.st] 38)).alloc (.cells #[.int .i64 0,.int .i64 0,.int .i64 0,.int .i64 0,.int .i64 0,.int .i64 0,.int .i64 0,.int .u32 0] 40):=⟨_,rfl⟩
 have G1:Hid (w3.heap[w.heap.size]?=some (.cells #[.int .i64 (a:Int),.int .i64 hi] 43 (0,0))):=Lib.hid (by
  rw [hw3]
  exact row_stays (row_stays (heap_alloc_new w _) (alloc_bel rfl)) (alloc_bel rfl))
 have G2:Hid (w3.heap[w.heap.size+1]?=some (.cells #[.int .i64 k.se,.int .i64 k.st] 38 (0,0))):=Lib.hid (by
  rw [hw3]
  have h1:=heap_alloc_new (w.alloc (.cells #[.int .i64 (a:Int),.int .i64 hi] 43)) (.cells #[.int .i64 k.se,.int .i64 k.st] 38)
  rw [World.size_alloc] at h1
  exact row_stays h1 (alloc_bel rfl))
 have G3:Hid (w3.heap[w.heap.size+1+1]?=some (.cells #[.int .i64 0,.int .i64 0,.int .i64 0,.int .i64 0,.int .i64 0,.int .i64 0,.int .i64 0,.int .u32 0] 40 (0,0))):=Lib.hid (by
  rw [hw3]
  have h1:=heap_alloc_new ((w.alloc (.cells #[.int .i64 (a:Int),.int .i64 hi] 43)).alloc (.cells #[.int .i64 k.se,.int .i64 k.st] 38)) (.cells #[.int .i64 0,.int .i64 0,.int .i64 0,.int .i64 0,.int .i64 0,.int .i64 0,.int .i64 0,.int .u32 0] 40)
  rw [World.size_alloc,World.size_alloc] at h1
  exact h1)
 have B3:Hid (Below w.heap.size w w3):=Lib.hid (by
  rw [hw3]
  exact (((Below.refl _ w).alloc (Nat.le_refl _) _).alloc (by simp) _).alloc (by simp;omega) _)
 have HW3:=Lib.hid hw3
 clear hw3
 cases o with
 | none =>
   dsimp only [enV,zeV] at HWY ⊢
   go_enter Tryz.func14,Tryz.ntmps14
   go_upto_region 1 with fail
   rw [← HW3.out]
   clear HW3
   go_upto_region 5 with (first
    | (refine wpList_load_row rfl 43 (.tmp 4) rfl w.heap.size rfl 43 _ (0,0) _ G1.out Tryz.underlying43 rfl (by kernel_rfl) ?_)
    | (refine wpList_load_row rfl 38 (.tmp 5) rfl (w.heap.size+1) rfl 38 _ (0,0) _ G2.out Tryz.underlying38 rfl (by kernel_rfl) ?_)
    | (refine wpList_load_row rfl 38 (.tmp 5) rfl (w.heap.size+1) rfl 38 _ (0,0) _ G4.out Tryz.underlying38 rfl (by kernel_rfl) ?_)
    | (go_at_call 35;refine (HWY.out _ B3.out).mono ?_;rintro e w4 ⟨A,n,c,rfl,hb4,hk4⟩;have HK:=Lib.hid hk4;have G4:=Lib.hid (row_stays G2.out hb4);have G5:=Lib.hid (row_stays G3.out hb4);have B4:=Lib.hid (B3.out.trans (hb4.mono B3.out.size));clear hb4 hk4)
    | (go_at_call 36;refine (HK.out _ (Below.refl _ _)).mono ?_;rintro e w5 ⟨rfl,hb5⟩;have G6':=Lib.hid (row_stays G5.out hb5);have B5:=Lib.hid (B4.out.trans (hb5.mono B4.out.size));clear hb5))
   obtain ⟨q,hq⟩:∃ q,q=w5.heap.size:=⟨_,rfl⟩
   obtain ⟨w6,hw6⟩:∃ w6,w6=w5.alloc (.cells #[.int .i64 0,.int .i64 0,.int .i64 0,.int .i64 0,.int .i64 0,.int .i64 0,.int .i64 0,.int .u32 0] 40):=⟨_,rfl⟩
   have G7:Hid (w6.heap[q]?=some (.cells #[.int .i64 0,.int .i64 0,.int .i64 0,.int .i64 0,.int .i64 0,.int .i64 0,.int .i64 0,.int .u32 0] 40 (0,0))):=Lib.hid (by rw [hw6,hq];exact heap_alloc_new _ _)
   have A6:=Lib.hid (alloc_bel hw6)
   have G6:=Lib.hid (row_stays G6'.out A6.out)
   have B6:=Lib.hid (B5.out.trans (A6.out.mono B5.out.size))
   rw [← hw6,← hq]
   clear hw6 hq
   go_wp2_with (refine wpList_store_row rfl 40 (.tmp 6) (.tmp 31) rfl (w.heap.size+1+1) _ rfl rfl 40 _ G6.out (by kernel_rfl) rfl (by simp [Value.oneCell']) ?_)
   refine bodyPost_ret (v:=.tuple #[zeV,.int .i64 10]) (results_cell_tmpB (p:=6) (u:=7) (ty:=40) rfl _ _ (w.heap.size+1+1) 40 _ (0,0) _ rfl (setRow_heap _ _ _ _ _ _ G6.out) Tryz.underlying40 rfl (by kernel_rfl)) rfl ⟨rfl,?_⟩
   exact below_setRow B6.out (by omega) _
 | some x =>
   dsimp only [enV,zeV] at HWY ⊢
   go_enter Tryz.func14,Tryz.ntmps14
   go_upto_region 1 with fail
   rw [← HW3.out]
   clear HW3
   go_upto_region 5 with (first
    | (refine wpList_load_row rfl 43 (.tmp 4) rfl w.heap.size rfl 43 _ (0,0) _ G1.out Tryz.underlying43 rfl (by kernel_rfl) ?_)
    | (refine wpList_load_row rfl 38 (.tmp 5) rfl (w.heap.size+1) rfl 38 _ (0,0) _ G2.out Tryz.underlying38 rfl (by kernel_rfl) ?_)
    | (refine wpList_load_row rfl 38 (.tmp 5) rfl (w.heap.size+1) rfl 38 _ (0,0) _ G4.out Tryz.underlying38 rfl (by kernel_rfl) ?_)
    | (go_at_call 35;refine (HWY.out _ B3.out).mono ?_;rintro e w4 ⟨A,n,c,rfl,hb4,hk4⟩;have HK:=Lib.hid hk4;have G4:=Lib.hid (row_stays G2.out hb4);have G5:=Lib.hid (row_stays G3.out hb4);have B4:=Lib.hid (B3.out.trans (hb4.mono B3.out.size));clear hb4 hk4)
    | (go_at_call 36;refine (HK.out _ (Below.refl _ _)).mono ?_;rintro e w5 ⟨rfl,hb5⟩;have G6':=Lib.hid (row_stays G5.out hb5);have B5:=Lib.hid (B4.out.trans (hb5.mono B4.out.size));clear hb5))
   obtain ⟨q,hq⟩:∃ q,q=w5.heap.size:=⟨_,rfl⟩
   obtain ⟨w6,hw6⟩:∃ w6,w6=w5.alloc (.cells #[.int .i64 x.se,.int .i64 x.st,.int .i64 x.en,.int .i64 x.ad,.int .i64 x.le,.int .i64 x.cn,.int .i64 x.co,.int .u32 x.cr] 40):=⟨_,rfl⟩
   have G7:Hid (w6.heap[q]?=some (.cells #[.int .i64 x.se,.int .i64 x.st,.int .i64 x.en,.int .i64 x.ad,.int .i64 x.le,.int .i64 x.cn,.int .i64 x.co,.int .u32 x.cr] 40 (0,0))):=Lib.hid (by rw [hw6,hq];exact heap_alloc_new _ _)
   have A6:=Lib.hid (alloc_bel hw6)
   have G6:=Lib.hid (row_stays G6'.out A6.out)
   have B6:=Lib.hid (B5.out.trans (A6.out.mono B5.out.size))
   rw [← hw6,← hq]
   clear hw6 hq
   go_wp2_with (first
    | (refine wpList_load_row rfl 40 (.tmp 10) rfl q rfl 40 _ (0,0) _ G7.out Tryz.underlying40 rfl (by kernel_rfl) ?_)
    | (refine wpList_store_row rfl 40 (.tmp 6) (.tmp 32) rfl (w.heap.size+1+1) _ rfl rfl 40 _ G6.out (by kernel_rfl) rfl (by simp [Value.oneCell']) ?_))
   refine bodyPost_ret (v:=.tuple #[enV x,.int .i64 0]) (results_cell_tmpB (p:=6) (u:=7) (ty:=40) rfl _ _ (w.heap.size+1+1) 40 _ (0,0) _ rfl (setRow_heap _ _ _ _ _ _ G6.out) Tryz.underlying40 rfl (by kernel_rfl)) rfl ⟨rfl,?_⟩
   exact below_setRow B6.out (by omega) _
end Go.Proofs.YtgkddhncfaeidaaGreat
