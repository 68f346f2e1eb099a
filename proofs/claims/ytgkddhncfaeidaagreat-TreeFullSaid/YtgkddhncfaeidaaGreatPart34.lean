/- Squeezed: the texts as they are written lie in wip/tpl. -/
import Derived.Test.YtgkddhncfaeidaaGreatTjCl
import Derived.Test.YtgkddhncfaeidaaGreatPart30
set_option maxRecDepth 100000
set_option maxHeartbeats 16000000
set_option linter.unusedSimpArgs false
set_option linter.unusedVariables false
namespace Go.Proofs.YtgkddhncfaeidaaGreat
open Go.RowKit Go.ChangeShapes Go.WideShapes Go.ChangeAt CrcM PageM
attribute [local go_sem] Oper.semAt_some
def BhR (PK:KeyD→Prop) (e:Ending):Prop:=∃ (k:KeyD) (ok:Bool),e=.returned (.tuple #[.agg #[.int .i64 k.se,.int .i64 k.st],.bool ok])∧(ok=true→PK k)
structure BhI (w W:World) (r2 r3:Nat) (a b:Int) (v:Bool):Prop where
 bel:Below w.heap.size w W
 c2:W.heap[r2]?=some (.cells #[.int .i64 a,.int .i64 b] 38 (0,0))
 c3:W.heap[r3]?=some (.cells #[.bool v] 4 (0,0))
theorem BhI.keep {w A B:World} {r2 r3:Nat} {a b:Int} {v:Bool} (h:BhI w A r2 r3 a b v) (os:B.os=A.os) (tp:B.tape=A.tape) (ot:B.output=A.output) (hs:A.heap.size≤B.heap.size) (hlow:∀ k,k<w.heap.size→B.heap[k]?=A.heap[k]?) (hk:∀ (k:Nat) (cs:Array Value) (T:TypeId) (fr:Nat × Nat),A.heap[k]?=some (Obj.cells cs T fr)→B.heap[k]?=A.heap[k]?):BhI w B r2 r3 a b v :=
 ⟨⟨os.trans h.bel.os,tp.trans h.bel.tape,ot.trans h.bel.output,Nat.le_trans h.bel.size hs,fun k h1=>(hlow k h1).trans (h.bel.block k h1)⟩,(hk _ _ _ _ h.c2).trans h.c2,(hk _ _ _ _ h.c3).trans h.c3⟩
theorem BhI.below {w A B:World} {r2 r3:Nat} {a b:Int} {v:Bool} (h:BhI w A r2 r3 a b v) (hb:Below A.heap.size A B):BhI w B r2 r3 a b v :=
 h.keep hb.os hb.tape hb.output hb.size (fun k h1=>hb.block k (Nat.lt_of_lt_of_le h1 h.bel.size)) (fun k cs T fr h1=>hb.block k (Array.getElem?_eq_some_iff.1 h1).1)
theorem BhI.oth {W:World} {r2 r3:Nat} (C:Array Value) (v:Value) {k:Nat} (h2:k≠r2) (h3:k≠r3):((W.setRow r2 C).setCell ⟨r3,0,none⟩ v).heap[k]?=W.heap[k]? :=
 (Below.heap_setCell _ ⟨r3,0,none⟩ v k h3).trans (setRow_other W r2 k C h2)
theorem BhI.set {w W:World} {r2 r3:Nat} (hr:r2=w.heap.size∧r3=w.heap.size+1) {a b:Int} {v:Bool} (h:BhI w W r2 r3 a b v) (a' b':Int) (v':Bool):BhI w ((W.setRow r2 #[.int .i64 a',.int .i64 b']).setCell ⟨r3,0,none⟩ (.bool v')) r2 r3 a' b' v' where
 bel:=⟨h.bel.os,h.bel.tape,h.bel.output,by simpa using h.bel.size,fun k hk=>(BhI.oth _ _ (by omega) (by omega)).trans (h.bel.block k hk)⟩
 c2:=(Below.heap_setCell _ ⟨r3,0,none⟩ _ r2 (by show r2≠r3;omega)).trans (setRow_heap _ _ _ _ _ _ h.c2)
 c3:=Boxed.set (v:=.bool v) _ ((setRow_other W r2 r3 _ (by omega)).trans h.c3)
theorem BhI.put {w W:World} {r2 r3:Nat} {a b:Int} {v:Bool} (h:BhI w W r2 r3 a b v) {D:Nat} {o o':Obj} (hD:W.heap[D]?=some o) (ho:o.isCells=false) (hw:w.heap.size≤D):BhI w (W.putObj D o') r2 r3 a b v:=by
 have hpg:=grownBy_putObj' W D o'
 have hne:∀ (k:Nat) (cs:Array Value) (T:TypeId) (fr:Nat × Nat),W.heap[k]?=some (Obj.cells cs T fr)→(some k:Option Nat)≠some D:=fun k cs T fr hk e=>by
  cases e
  rw [hk] at hD
  cases hD
  cases ho
 exact h.keep hpg.os hpg.tape hpg.output hpg.size (fun k hk=>hpg.block k (Nat.lt_of_lt_of_le hk h.bel.size) (fun e=>by cases e;omega)) (fun k cs T fr hk=>hpg.block k (Array.getElem?_eq_some_iff.1 hk).1 (hne k cs T fr hk))
theorem BhI.res {w W:World} {r2 r3:Nat} {a b:Int} {v:Bool} (h:BhI w W r2 r3 a b v) (tmps:Array Value) (h2:tmps.getD 2 undef=.pointer (some ⟨r2,0,none⟩)) (h3:tmps.getD 3 undef=.pointer (some ⟨r3,0,none⟩)):(results Tryz.f63 tmps).run Tryz.prog W=.ok (.tuple #[.agg #[.int .i64 a,.int .i64 b],.bool v]) W :=
 results_cellsC2 (p:=2) (q:=3) rfl tmps W ⟨r2,0,none⟩ ⟨r3,0,none⟩ _ _ h2 h3 (run_loadVar_row _ r2 38 38 _ (0,0) _ h.c2 Tryz.underlying38 rfl (by kernel_rfl)) (run_loadVar_oneC _ _ _ _ _ Tryz.underlying4 rfl (nd_cell h.c3 0 _ rfl))
theorem behind_way (PK:KeyD→Prop) (pre:List StepM) (A:Option Addr) (c h bw b1:Nat) (x:StepM) (hlen:pre.length=h+1) (h4:h≤4) (hx:pre[h]?=some x) (w:World) (hrow:w.ownsRow bw 96 6 (.slice A (h+1) c) (h+1) (pre.flatMap stC)) (hnod:∀ y ∈ pre,OwnN w b1 y.s.n y.l)
 (hsz:∀ y ∈ pre,y.s.n.es.length≤1000∧y.s.n.ks.length≤1000∧y.s.at_≤1000) (hlf:∀ e,x.s.n.es[x.s.at_]?=some e→PK e.key) (hin:∀ (i:Nat) (y:StepM) (k:KeyD),i<h→pre[i]?=some y→y.s.n.ks[y.s.at_+1]?=some k→PK k) :
 Calls Tryz.prog 63 #[.slice A (h+1) c] w fun e w'=>BhR PK e∧Below w.heap.size w w':=by
 obtain ⟨b,hAb,hbw,hnc,hcm,hsr⟩:=SRow.of_row hrow hlen.symm (by omega)
 subst hAb
 have HLEN:=Lib.hid hlen
 have HX:=Lib.hid hx
 have HSR:=Lib.hid hsr
 have HND:=Lib.hid hnod
 have HSZ:=Lib.hid hsz
 have HLF:=Lib.hid hlf
 have HIN:=Lib.hid hin
 have HBL:Hid (b<w.heap.size):=Lib.hid (by
  obtain ⟨cur,q1,_⟩:=hsr
  exact (Array.getElem?_eq_some_iff.1 q1).1)
 unfold maxLen at hcm
 clear hlen hx hsr hnod hsz hlf hin hrow
 obtain ⟨w2,hw2⟩:∃ w2,w2=(w.alloc (.cells #[.int .i64 0,.int .i64 0] 38)).alloc (.cells #[.bool false] 4):=⟨_,rfl⟩
 have B2:Hid (Below w.heap.size w w2):=Lib.hid (by rw [hw2];exact below_two (Below.refl _ _))
 have A2:Hid (w2.heap[w.heap.size]?=some (.cells #[.int .i64 0,.int .i64 0] 38 (0,0))):=Lib.hid (by rw [hw2];exact heap_alloc2_old _ _ _)
 have A3:Hid (w2.heap[w.heap.size+1]?=some (.cells #[.bool false] 4 (0,0))):=Lib.hid (by rw [hw2];exact heap_alloc2_new _ _ _)
 have Z2:Hid (w2.heap.size=w.heap.size+2):=Lib.hid (by rw [hw2];simp)
 refine (callsIn_wide (n:=3)).1 ?_
 refine callsIn_of_wp_marks Tryz.func63 rfl trivial ?_ rfl
 simp only [Tryz.ntmps63,List.size_toArray,List.length_cons,List.length_nil,Nat.reduceAdd,Nat.reduceSub,Array.replicate_succ,Array.replicate_zero,List.push_toArray,List.append_toArray,List.nil_append,List.cons_append]
 refine wpIn_wide.2 ?_
 go_upto_region 1 with fail
 rw [← hw2]
 clear hw2
 obtain ⟨r2,hr2⟩:∃ r2,r2=w.heap.size:=⟨_,rfl⟩
 obtain ⟨r3,hr3⟩:∃ r3,r3=w.heap.size+1:=⟨_,rfl⟩
 rw [← hr2] at A2
 rw [← hr3] at A3
 rw [← hr3,← hr2]
 have HR23:Hid (r2=w.heap.size∧r3=w.heap.size+1):=Lib.hid ⟨hr2,hr3⟩
 clear hr2 hr3
 have hw1:wrap64 (((h+1:Nat):Int) - 1)=(h:Int):=by unfold wrap64;omega
 have hw3:wrap64 ((h:Int)+1 - 1)=(h:Int):=by unfold wrap64;omega
 have hh1:(h:Int)<((h+1:Nat):Int):=by omega
 have hh2:(h:Int)<(h:Int)+1:=by omega
 have HRG:Hid (w2.rangeAt b (h*6) (stC x)):=Lib.hid ((HSR.out.same (B2.out.block b HBL.out)).range HX.out)
 go_upto_region 2 with (first
  | (refine wpList_load_mid rfl 96 (.tmp 11) rfl b (h*6) rfl (stC x) _ HRG.out Tryz.underlying96 rfl (by kernel_rfl) ?_)
  | (refine wpList_store_row rfl 96 (.tmp 4) (.tmp 12) rfl w2.heap.size (stC x).toArray rfl rfl 96 _ (heap_alloc_new _ _) (by kernel_rfl) rfl (by simp [stC,Value.oneCell']) ?_))
 obtain ⟨w4,hw4⟩:∃ w4,w4=(w2.alloc (.cells #[.int .i64 0,.bool false,.slice none 0 0,.slice none 0 0,.slice none 0 0,.int .i64 0] 96)).setRow w2.heap.size (stC x).toArray:=⟨_,rfl⟩
 have B24:Hid (Below w2.heap.size w2 w4):=Lib.hid (by rw [hw4];exact below_setRow (alloc_bel rfl) (Nat.le_refl _) _)
 obtain ⟨b4,hb4⟩:∃ b4,b4=w2.heap.size:=⟨_,rfl⟩
 have K4:Hid (w4.heap[b4]?=some (.cells (stC x).toArray 96 (0,0))):=Lib.hid (by rw [hw4,hb4];exact setRow_heap _ _ _ _ _ _ (heap_alloc_new _ _))
 rw [← hw4,← hb4]
 clear hw4 hb4 hw1 hw3 hh1 hh2
 try simp only [Act.put,List.setIfInBounds_toArray,List.set_cons_zero,List.set_cons_succ]
 have B4:Hid (Below w.heap.size w w4):=Lib.hid (B2.out.trans (B24.out.mono B2.out.size))
 have A42:=Lib.hid (row_stays A2.out B24.out)
 have A43:=Lib.hid (row_stays A3.out B24.out)
 have HNX:=Lib.hid ((HND.out x (List.mem_of_getElem? HX.out)).below B4.out)
 have hsx:=HSZ.out x (List.mem_of_getElem? HX.out)
 obtain ⟨⟨xa,xn,xr⟩,xl⟩:=x
 dsimp only at hsx
 obtain ⟨ne,hne⟩:∃ ne,ne=xn.es.length:=⟨_,rfl⟩
 have HNE:=Lib.hid hne
 rw [← hne] at hsx
 have c2:w4.cell? ⟨b4,2,none⟩=some (.slice xl.EA ne xl.ec):=by rw [hne];exact nd_cell K4.out 2 _ rfl
 have c5:w4.cell? ⟨b4,5,none⟩=some (.int .i64 (xr:Int)):=nd_cell K4.out 5 _ rfl
 clear hne
 by_cases hlt:xr<ne
 ·obtain ⟨e,he⟩:∃ e,xn.es[xr]?=some e:=⟨_,List.getElem?_eq_getElem (by rw [← HNE.out];exact hlt)⟩
  have HPK:=Lib.hid (HLF.out e he)
  obtain ⟨be,oe,hEA,hce⟩:=EnAt.of_row (HNX.out.1) (by intro h;rw [h] at he;cases he)
  dsimp only at hEA
  obtain ⟨e0,e1,-,-,-,-,-,-⟩:=hce xr e he
  rw [hEA] at c2
  clear hce he hEA
  have N3:(w4.setRow r2 #[.int .i64 e.se,.int .i64 e.st]).heap[r3]?=some (.cells #[.bool false] 4 (0,0)):=(setRow_other w4 r2 r3 _ (by have:=HR23.out;omega)).trans A43.out
  have k3:(w4.setRow r2 #[.int .i64 e.se,.int .i64 e.st]).cell? ⟨r3,0,none⟩=some (.bool false):=nd_cell N3 0 _ rfl
  have f3:(w4.setRow r2 #[.int .i64 e.se,.int .i64 e.st]).frozen? ⟨r3,0,none⟩=false:=by simp [World.frozen?,N3]
  go_wp2_with (refine wpList_store_row rfl 38 (.tmp 2) (.tmp 27) rfl r2 #[.int .i64 e.se,.int .i64 e.st] rfl rfl 38 _ A42.out (by kernel_rfl) rfl (by simp [Value.oneCell']) ?_)
  have q4:=BhI.set HR23.out ⟨B4.out,A42.out,A43.out⟩ e.se e.st true
  refine ⟨_,q4.res _ ?_ ?_,⟨e.key,true,rfl,fun _=>HPK.out⟩,q4.bel⟩ <;> rfl
 ·have hltf:decide ((xr:Int)<(ne:Int))=false:=by simp;omega
  have hw1:wrap64 (((h+1:Nat):Int) - 1)=(h:Int):=by unfold wrap64;omega
  have hw2:wrap64 ((h:Int)+1 - 1)=(h:Int):=by unfold wrap64;omega
  have hhc:(h:Int)≤(c:Int):=by omega
  go_upto_region 5 with (go_at_call 60;refine (callsIn_wide.1 (back_in 3 _ _ _ w4)).mono ?_;rintro e w5 ⟨rfl,hw5⟩;have HW5:=Lib.hid hw5;clear hw5)
  clear hltf hw1 hw2 hhc c2 c5 hlt
  obtain ⟨Bs,hBs⟩:∃ Bs,Bs=w4.heap.size:=⟨_,rfl⟩
  have B45:Hid (Below w4.heap.size w4 w5):=Lib.hid (alloc_bel HW5.out)
  have Z5:Hid (w5.heap.size=Bs+1):=Lib.hid (by rw [HW5.out,hBs];simp)
  have X5:Hid (Boxed w5 Bs 90 (.slice (some ⟨b,0,none⟩) h c)):=Lib.hid (by rw [HW5.out,hBs];exact heap_alloc_new _ _)
  have B5:Hid (Below w.heap.size w w5):=Lib.hid (B4.out.trans (B45.out.mono B4.out.size))
  have SR5:Hid (SRow w5 b pre):=Lib.hid (HSR.out.same (B5.out.block b HBL.out))
  have LB:Hid (b<w.heap.size∧w.heap.size+2≤Bs):=Lib.hid ⟨HBL.out,by rw [hBs,← Z2.out];exact B24.out.size⟩
  have A25:=Lib.hid (row_stays A42.out B45.out)
  have A35:=Lib.hid (row_stays A43.out B45.out)
  rw [← hBs]
  clear hBs HW5 B45 K4
  refine wp_namedC ?_
  intro T0 hT0
  refine (wpIn_wide (n:=3)).1 ?_
  refine wpIn_rangeFunc_X rfl (by decide) (gf:=90) (lb:=#[.pointer (some ⟨Bs,0,none⟩)]) (by rw [hT0];rfl) trivial (enters_of Tryz.func90 (by kernel_rfl) rfl)
   (back_seq 2 (by decide) Bs b c h pre (by rw [HLEN.out];omega) (by omega) (by omega) hcm)
   (fun A B l o _ ho _ h=>by rw [← h];exact ho) KpB.trans (fun W l o o' hl ho hc=>by
    have:=LB.out;have:=Z5.out
    exact ⟨World.putObj_heap_other (by omega),World.putObj_heap_other (by omega)⟩) (fun _=>rfl)
   (fun W1 hb hz=>⟨row_stays X5.out hb,SR5.out.same (hb.block b (by have:=LB.out;have:=Z5.out;omega))⟩)
   (fun xs s A B row hs hg hr=>hs) (fun xs s A B row hs hg hr=>hs)
   (fun ys W=>ys.length≤h∧w5.heap.size≤W.heap.size∧Boxed W Bs 90 (.slice (some ⟨b,0,none⟩) h c)∧SRow W b pre∧BhI w W r2 r3 0 0 false)
   (fun cd ys W=>cd=.ret∧w5.heap.size≤W.heap.size∧∃ k,PK k∧BhI w W r2 r3 k.se k.st true)
   (fun s A B row hs hg hr=>by
    have hkk:∀ (k:Nat) (cs:Array Value) (T:TypeId) (fr:Nat × Nat),A.heap[k]?=some (Obj.cells cs T fr)→B.heap[k]?=A.heap[k]?:=fun k cs T fr hk=>hg.block k (Array.getElem?_eq_some_iff.1 hk).1 (fun e=>by
     obtain ⟨_,o,ho,hc⟩:=hr k e.symm
     rw [hk] at ho
     cases ho
     cases hc)
    obtain ⟨h1,h2,h3,h4,h5⟩:=hs
    have h4':SRow B b pre:=by
     obtain ⟨cur,q1,_⟩:=id h4
     exact h4.same (hkk _ _ _ _ q1)
    refine ⟨h1,Nat.le_trans h2 hg.size,(hkk _ _ _ _ h3).trans h3,h4',h5.keep hg.os hg.tape hg.output hg.size (fun k hk=>hg.block k (Nat.lt_of_lt_of_le hk h5.bel.size) (fun e=>?_)) hkk⟩
    have:=(hr k e.symm).1;have:=LB.out;have:=Z5.out;omega)
   (fun c s A B row hs hg hr=>by
    have hkk:∀ (k:Nat) (cs:Array Value) (T:TypeId) (fr:Nat × Nat),A.heap[k]?=some (Obj.cells cs T fr)→B.heap[k]?=A.heap[k]?:=fun k cs T fr hk=>hg.block k (Array.getElem?_eq_some_iff.1 hk).1 (fun e=>by
     obtain ⟨_,o,ho,hc⟩:=hr k e.symm
     rw [hk] at ho
     cases ho
     cases hc)
    obtain ⟨h1,h2,k,h4,h5⟩:=hs
    refine ⟨h1,Nat.le_trans h2 hg.size,k,h4,h5.keep hg.os hg.tape hg.output hg.size (fun k hk=>hg.block k (Nat.lt_of_lt_of_le hk h5.bel.size) (fun e=>?_)) hkk⟩
    have:=(hr k e.symm).1;have:=LB.out;have:=Z5.out;omega)
   (fun s A B h e=>by rw [← e];exact h) (fun _ _ _=>trivial) (fun _ _ _ _ _=>trivial) ⟨Nat.zero_le _,Nat.le_refl _,X5.out,SR5.out,⟨B5.out,A25.out,A35.out⟩⟩
   (fun x a' W=>∃ (Bx:Nat) (st:StepM),w5.heap.size≤Bx∧W.heap[Bx]?=some (.cells (stC st).toArray 96 (0,0))∧pre[h - 1 - x]?=some st∧a'={ tmps:=((T0.setIfInBounds 34 (.int .i64 ((h - 1 - x:Nat):Int))).setIfInBounds 35 (.agg (stC st).toArray)).setIfInBounds 6 (.pointer (some ⟨Bx,0,none⟩)),defers:=[] })
   (fun x a' s A B row hs hg hr=>by
    obtain ⟨Bx,st,h0,h1,h2,h3⟩:=hs
    exact ⟨Bx,st,h0,(hg.block Bx (Array.getElem?_eq_some_iff.1 h1).1 (fun e=>by
     obtain ⟨_,o,ho,hc⟩:=hr Bx e.symm
     rw [h1] at ho
     cases ho
     cases hc)).trans h1,h2,h3⟩) ?assign ?body ?done ?stop
  case assign =>
   rintro l' ys x W K hl hlt rfl hK
   have HL:=Lib.hid hl
   clear hl
   obtain ⟨st',hst⟩:∃ st',pre[h - 1 - ys.length]?=some st':=⟨_,List.getElem?_eq_getElem (by rw [HLEN.out];omega)⟩
   have HK2:=Lib.hid hK
   clear hK
   subst hT0
   dsimp only [encB]
   rw [hst]
   simp only [Option.map_some,Option.getD_some]
   gi_wp2_with (refine inX_store_row rfl 96 (.tmp 6) (.tmp 35) rfl W.heap.size (stC st').toArray rfl rfl 96 _ (heap_alloc_new _ _) (by kernel_rfl) rfl (by simp [stC,Value.oneCell']) ?_)
   obtain ⟨W2,hW2⟩:∃ W2,W2=(W.alloc (.cells #[.int .i64 0,.bool false,.slice none 0 0,.slice none 0 0,.slice none 0 0,.int .i64 0] 96)).setRow W.heap.size (stC st').toArray:=⟨_,rfl⟩
   have BW:Below W.heap.size W W2:=by rw [hW2];exact below_setRow (alloc_bel rfl) (Nat.le_refl _) _
   have GW:W2.heap[W.heap.size]?=some (.cells (stC st').toArray 96 (0,0)):=by rw [hW2];exact setRow_heap _ _ _ _ _ _ (heap_alloc_new _ _)
   rw [← hW2]
   obtain ⟨hl1,hl2,hl3,hl4,hi⟩:=HL.out
   have hlb:=LB.out
   have hz5:=Z5.out
   refine HK2.out _ _ ⟨BW.size,fun k o _ ho _=>(BW.block k (Array.getElem?_eq_some_iff.1 ho).1).trans ho⟩ ⟨BW.block Bs (by omega),BW.block b (by omega)⟩ ⟨hl1,Nat.le_trans hl2 BW.size,row_stays hl3 BW,hl4.same (BW.block b (by omega)),hi.below BW⟩ ⟨W.heap.size,st',hl2,GW,hst,rfl⟩
  case body =>
   rintro l' ys x a' W hlW ⟨rr,hrr⟩ ⟨hl1,hl2,hl3,hl4,hi⟩ ⟨Bx,st,hBw,hBx,hst,rfl⟩ hlt rfl
   subst hT0
   simp only [List.setIfInBounds_toArray,List.set_cons_zero,List.set_cons_succ]
   obtain ⟨j,hj⟩:∃ j,j=ys.length:=⟨_,rfl⟩
   rw [← hj] at hst hlt hl1
   have hjl:h - 1 - j<h:=by omega
   have HIJ:=Lib.hid (fun k hk=>HIN.out (h - 1 - j) st k hjl hst hk)
   have hsz:=HSZ.out st (List.mem_of_getElem? hst)
   have HNW:=Lib.hid (((HND.out st (List.mem_of_getElem? hst)).below hi.bel).2.1)
   have HI:=Lib.hid hi
   have HL:=Lib.hid (And.intro hl1 (And.intro hl2 (And.intro hl3 hl4)))
   have HJ:=Lib.hid hj
   have HLT:=Lib.hid hlt
   obtain ⟨⟨sa,sn,sr⟩,sl⟩:=st
   dsimp only at hsz HIJ HNW
   obtain ⟨nk,hnk⟩:∃ nk,nk=sn.ks.length:=⟨_,rfl⟩
   have HNK:=Lib.hid hnk
   have c3:W.cell? ⟨Bx,3,none⟩=some (.slice sl.KA nk sl.kc):=by rw [hnk];exact nd_cell hBx 3 _ rfl
   have c5:W.cell? ⟨Bx,5,none⟩=some (.int .i64 (sr:Int)):=nd_cell hBx 5 _ rfl
   have HBX:=Lib.hid hBx
   rw [← hnk] at hsz
   obtain ⟨i1,hi1⟩:∃ i1,i1=sr+1:=⟨_,rfl⟩
   have hwi:wrap64 ((sr:Int)+1)=(i1:Int):=by rw [wrap_smallT (by omega) (by omega)];omega
   rw [← hi1] at HIJ
   clear hi1 hsz
   clear hnk hi hst hlt hl1 hl2 hl3 hl4 hBx hrr hlW hj hjl
   by_cases hkk:i1<nk
   ·have hkt:decide ((i1:Int)<(nk:Int))=true:=decide_eq_true (by omega)
    obtain ⟨k,hk⟩:∃ k,sn.ks[i1]?=some k:=⟨_,List.getElem?_eq_getElem (by rw [← HNK.out];exact hkk)⟩
    have HPK:=Lib.hid (HIJ.out k hk)
    obtain ⟨bk,ok,hKA,hck⟩:=KyAt.of_row HNW.out (by intro e;rw [e] at hk;cases hk)
    obtain ⟨e0,e1⟩:=hck i1 k hk
    rw [hKA] at c3
    clear hck hk hKA
    have R2:=HI.out.c2
    have N3:(W.setRow r2 #[.int .i64 k.se,.int .i64 k.st]).heap[r3]?=some (.cells #[.bool false] 4 (0,0)):=(setRow_other W r2 r3 _ (by have:=HR23.out;omega)).trans HI.out.c3
    have k3:(W.setRow r2 #[.int .i64 k.se,.int .i64 k.st]).cell? ⟨r3,0,none⟩=some (.bool false):=nd_cell N3 0 _ rfl
    have f3:(W.setRow r2 #[.int .i64 k.se,.int .i64 k.st]).frozen? ⟨r3,0,none⟩=false:=by simp [World.frozen?,N3]
    gi_wp2_with (refine inX_store_row rfl 38 (.tmp 2) (.tmp 51) rfl r2 #[.int .i64 k.se,.int .i64 k.st] rfl rfl 38 _ R2 (by kernel_rfl) rfl (by simp [Value.oneCell']) ?_)
    have q4:=BhI.set HR23.out HI.out k.se k.st true
    have hr:=HR23.out
    have hlb:=LB.out
    have hz5:=Z5.out
    obtain ⟨hl1,hl2,hl3,hl4⟩:=HL.out
    exact ⟨⟨by simp,fun j o hj ho _=>(BhI.oth _ _ (by omega) (by omega)).trans ho⟩,⟨BhI.oth _ _ (by omega) (by omega),BhI.oth _ _ (by omega) (by omega)⟩,rfl,by simpa using hl2,k,HPK.out,q4⟩
   ·have hkt:decide ((i1:Int)<(nk:Int))=false:=decide_eq_false (by omega)
    gi_wp2
    obtain ⟨hl1,hl2,hl3,hl4⟩:=HL.out
    have hlt:=HLT.out
    refine ⟨(KeepsOthers.refl _).from _,⟨rfl,rfl⟩,?_,hl2,hl3,hl4,HI.out⟩
    rw [List.length_append,← HJ.out,List.length_singleton]
    omega
  case done =>
   rintro D xs W hD rfl ⟨_,hl2,_,_,hi⟩ hK
   subst hT0
   have HI:=Lib.hid hi
   have HDD:=Lib.hid hD
   have HKD:=Lib.hid hK
   have HL2:=Lib.hid hl2
   have R2:=HI.out.c2
   have N3:(W.setRow r2 #[.int .i64 0,.int .i64 0]).heap[r3]?=some (.cells #[.bool false] 4 (0,0)):=(setRow_other W r2 r3 _ (by have:=HR23.out;omega)).trans HI.out.c3
   have k3:(W.setRow r2 #[.int .i64 0,.int .i64 0]).cell? ⟨r3,0,none⟩=some (.bool false):=nd_cell N3 0 _ rfl
   have f3:(W.setRow r2 #[.int .i64 0,.int .i64 0]).frozen? ⟨r3,0,none⟩=false:=by simp [World.frozen?,N3]
   clear hi hD hl2 hK
   go_wp2_with (refine wpList_store_row rfl 38 (.tmp 2) (.tmp 52) rfl r2 #[.int .i64 0,.int .i64 0] rfl rfl 38 _ R2 (by kernel_rfl) rfl (by simp [Value.oneCell']) ?_)
   have q4:=BhI.set HR23.out HI.out 0 0 false
   have hr:=HR23.out
   have hlb:=LB.out
   have hz5:=Z5.out
   have hdd:=HDD.out
   have hkd:=(BhI.oth (r2:=r2) (r3:=r3) (W:=W) #[.int .i64 0,.int .i64 0] (.bool false) (k:=D) (by omega) (by omega)).trans HKD.out
   refine ⟨by simp,.inl ⟨_,_,rfl,run_takeDeferred hkd,?_⟩⟩
   have q5:=q4.put (o':=.deferred none) hkd rfl (by omega)
   refine ⟨_,q5.res _ ?_ ?_,⟨⟨0,0⟩,false,rfl,fun h=>by cases h⟩,q5.bel⟩ <;> rfl
  case stop =>
   rintro D cd ys W hD hs ⟨rfl,hl2,k,hpk,hi⟩ hK
   subst hT0
   gi_wp2
   have hr:=HR23.out
   have hlb:=LB.out
   have hz5:=Z5.out
   refine ⟨by simp,.inl ⟨_,_,rfl,run_takeDeferred hK,?_⟩⟩
   have q5:=hi.put (o':=.deferred none) hK rfl (by omega)
   refine ⟨_,q5.res _ ?_ ?_,⟨k,true,rfl,fun _=>hpk⟩,q5.bel⟩ <;> rfl
theorem meets_no (pre:List StepM) (A:Option Addr) (c h bw b1:Nat) (x:StepM) (e:EntD) (hlen:pre.length=h+1) (h4:h≤4) (hx:pre[h]?=some x) (w:World) (hrow:w.ownsRow bw 96 6 (.slice A (h+1) c) (h+1) (pre.flatMap stC)) (hnod:∀ y ∈ pre,OwnN w b1 y.s.n y.l)
 (hsz:∀ y ∈ pre,y.s.n.es.length≤1000∧y.s.n.ks.length≤1000∧y.s.at_≤1000) (hat:x.s.at_≤x.s.n.es.length) (hah:∀ a,0<x.s.at_→x.s.n.es[x.s.at_ - 1]?=some a→¬ (a.se=e.se∧e.st≤a.en)) (hlf:∀ a,x.s.n.es[x.s.at_]?=some a→¬ (a.key.se=e.se∧a.key.st≤e.en)) (hin:∀ (i:Nat) (y:StepM) (k:KeyD),i<h→pre[i]?=some y→y.s.n.ks[y.s.at_+1]?=some k→¬ (k.se=e.se∧k.st≤e.en)) :
 Calls Tryz.prog 40 #[.slice A (h+1) c,.agg (enC e).toArray] w fun e' w'=>e'=.returned (.bool false)∧Below w.heap.size w w':=by
 have HBH:=Lib.hid (fun W (hW:Below w.heap.size w W)=>behind_way (fun k=>¬ (k.se=e.se∧k.st≤e.en)) pre A c h bw b1 x hlen h4 hx W (row_below hrow hW) (fun y hy=>(hnod y hy).below hW) hsz hlf hin)
 obtain ⟨b,hAb,hbw,hnc,hcm,hsr⟩:=SRow.of_row hrow hlen.symm (by omega)
 subst hAb
 have HSR:=Lib.hid hsr
 have HX:=Lib.hid hx
 have HNX:=Lib.hid (hnod x (List.mem_of_getElem? hx))
 have HBL:Hid (b<w.heap.size):=Lib.hid (by
  obtain ⟨cur,q1,_⟩:=hsr
  exact (Array.getElem?_eq_some_iff.1 q1).1)
 have hsx:=hsz x (List.mem_of_getElem? hx)
 obtain ⟨⟨xa,xn,xr⟩,xl⟩:=x
 dsimp only at hsx hat hah HNX
 have HAH:=Lib.hid hah
 obtain ⟨ne,hne⟩:∃ ne,ne=xn.es.length:=⟨_,rfl⟩
 have HNE:=Lib.hid hne
 rw [← hne] at hsx hat
 obtain ⟨ese,est,een,ead,ele,ecn,eco,ecr⟩:=e
 dsimp only [enC] at HAH HBH ⊢
 obtain ⟨w1,hw1⟩:∃ w1,w1=w.alloc (.cells #[.int .i64 ese,.int .i64 est,.int .i64 een,.int .i64 ead,.int .i64 ele,.int .i64 ecn,.int .i64 eco,.int .u32 ecr] 40):=⟨_,rfl⟩
 have B1:=Lib.hid (alloc_bel hw1)
 have G1:Hid (w1.heap[w.heap.size]?=some (.cells #[.int .i64 ese,.int .i64 est,.int .i64 een,.int .i64 ead,.int .i64 ele,.int .i64 ecn,.int .i64 eco,.int .u32 ecr] 40 (0,0))):=Lib.hid (by rw [hw1];exact heap_alloc_new _ _)
 have HW1:=Lib.hid hw1
 have Z1:Hid (w1.heap.size=w.heap.size+1):=Lib.hid (by rw [hw1];simp)
 clear hw1 hah hrow hnod hsz hlf hin hx hsr hlen hne
 go_enter Tryz.func40,Tryz.ntmps40
 go_upto_region 1 with fail
 rw [← HW1.out]
 clear HW1
 have hq0:((((h+1:Nat):Int)) == 0)=false:=by simp;omega
 have hq1:((h:Int)+1 == 0)=false:=by simp;omega
 have hw1:wrap64 (((h+1:Nat):Int) - 1)=(h:Int):=by unfold wrap64;unfold maxLen at hcm;omega
 have hw3:wrap64 ((h:Int)+1 - 1)=(h:Int):=by unfold wrap64;omega
 have hh1:(h:Int)<((h+1:Nat):Int):=by omega
 have hh2:(h:Int)<(h:Int)+1:=by omega
 have HRG:Hid (w1.rangeAt b (h*6) (stC ⟨⟨xa,xn,xr⟩,xl⟩)):=Lib.hid ((HSR.out.same (B1.out.block b HBL.out)).range HX.out)
 go_upto_region 4 with (first
  | (refine wpList_load_mid rfl 96 (.tmp 16) rfl b (h*6) rfl (stC ⟨⟨xa,xn,xr⟩,xl⟩) _ HRG.out Tryz.underlying96 rfl (by kernel_rfl) ?_)
  | (refine wpList_store_row rfl 96 (.tmp 5) (.tmp 17) rfl w1.heap.size (stC ⟨⟨xa,xn,xr⟩,xl⟩).toArray rfl rfl 96 _ (heap_alloc_new _ _) (by kernel_rfl) rfl (by simp [stC,Value.oneCell']) ?_))
 obtain ⟨w4,hw4⟩:∃ w4,w4=(w1.alloc (.cells #[.int .i64 0,.bool false,.slice none 0 0,.slice none 0 0,.slice none 0 0,.int .i64 0] 96)).setRow w1.heap.size (stC ⟨⟨xa,xn,xr⟩,xl⟩).toArray:=⟨_,rfl⟩
 obtain ⟨b4,hb4⟩:∃ b4,b4=w1.heap.size:=⟨_,rfl⟩
 have B14:Hid (Below w1.heap.size w1 w4):=Lib.hid (by rw [hw4];exact below_setRow (alloc_bel rfl) (Nat.le_refl _) _)
 have K4:Hid (w4.heap[b4]?=some (.cells (stC ⟨⟨xa,xn,xr⟩,xl⟩).toArray 96 (0,0))):=Lib.hid (by rw [hw4,hb4];exact setRow_heap _ _ _ _ _ _ (heap_alloc_new _ _))
 rw [← hw4,← hb4]
 have HB4:=Lib.hid hb4
 clear hw4 hb4 hw1 hw3 hh1 hh2 hq0 hq1 HRG
 try simp only [Act.put,List.setIfInBounds_toArray,List.set_cons_zero,List.set_cons_succ]
 have B4:Hid (Below w.heap.size w w4):=Lib.hid (B1.out.trans (B14.out.mono B1.out.size))
 have G4:=Lib.hid (row_stays G1.out B14.out)
 have HN4:=Lib.hid (HNX.out.below B4.out)
 have c2:w4.cell? ⟨b4,2,none⟩=some (.slice xl.EA ne xl.ec):=by rw [HNE.out];exact nd_cell K4.out 2 _ rfl
 have c5:w4.cell? ⟨b4,5,none⟩=some (.int .i64 (xr:Int)):=nd_cell K4.out 5 _ rfl
 by_cases h0:0<xr
 ·have hd:decide ((xr:Int) > 0)=true:=by simp;omega
  obtain ⟨i0,hi0⟩:∃ i0,i0=xr - 1:=⟨_,rfl⟩
  have hwi:wrap64 ((xr:Int) - 1)=(i0:Int):=by unfold wrap64;omega
  have hlt:(i0:Int)<(ne:Int):=by omega
  obtain ⟨a,ha⟩:∃ a,xn.es[i0]?=some a:=⟨_,List.getElem?_eq_getElem (by rw [← HNE.out];omega)⟩
  have HA:Hid (¬ (a.se=ese∧est≤a.en)):=Lib.hid (HAH.out a h0 (by rw [← hi0];exact ha))
  obtain ⟨be,oe,hEA,hce⟩:=EnAt.of_row (HN4.out.1) (by intro e;rw [e] at ha;cases ha)
  have HRE:Hid (w4.rangeAt be (oe+i0*8) [.int .i64 a.se,.int .i64 a.st,.int .i64 a.en,.int .i64 a.ad,.int .i64 a.le,.int .i64 a.cn,.int .i64 a.co,.int .u32 a.cr]):=Lib.hid (by
   obtain ⟨e0,e1,e2,e3,e4,e5,e6,e7⟩:=hce i0 a ha
   intro j u hu
   match j,hu with
   | 0,hu=>cases hu;exact e0
   | 1,hu=>cases hu;exact e1
   | 2,hu=>cases hu;exact e2
   | 3,hu=>cases hu;exact e3
   | 4,hu=>cases hu;exact e4
   | 5,hu=>cases hu;exact e5
   | 6,hu=>cases hu;exact e6
   | 7,hu=>cases hu;exact e7
   | j+8,hu=>simp at hu)
  rw [hEA] at c2
  clear ha hce hEA hi0 hsx
  go_upto_region 6 with (first
   | (refine wpList_load_mid rfl 40 (.tmp 27) rfl be (oe+i0*8) rfl [.int .i64 a.se,.int .i64 a.st,.int .i64 a.en,.int .i64 a.ad,.int .i64 a.le,.int .i64 a.cn,.int .i64 a.co,.int .u32 a.cr] _ HRE.out Tryz.underlying40 rfl (by kernel_rfl) ?_)
   | (refine wpList_store_row rfl 40 (.tmp 6) (.tmp 28) rfl w4.heap.size #[.int .i64 a.se,.int .i64 a.st,.int .i64 a.en,.int .i64 a.ad,.int .i64 a.le,.int .i64 a.cn,.int .i64 a.co,.int .u32 a.cr] rfl rfl 40 _ (heap_alloc_new _ _) (by kernel_rfl) rfl (by simp [Value.oneCell']) ?_))
  obtain ⟨w5,hw5⟩:∃ w5,w5=(w4.alloc (.cells #[.int .i64 0,.int .i64 0,.int .i64 0,.int .i64 0,.int .i64 0,.int .i64 0,.int .i64 0,.int .u32 0] 40)).setRow w4.heap.size #[.int .i64 a.se,.int .i64 a.st,.int .i64 a.en,.int .i64 a.ad,.int .i64 a.le,.int .i64 a.cn,.int .i64 a.co,.int .u32 a.cr]:=⟨_,rfl⟩
  have B45:Hid (Below w4.heap.size w4 w5):=Lib.hid (by rw [hw5];exact below_setRow (alloc_bel rfl) (Nat.le_refl _) _)
  have K5:Hid (w5.heap[w4.heap.size]?=some (.cells #[.int .i64 a.se,.int .i64 a.st,.int .i64 a.en,.int .i64 a.ad,.int .i64 a.le,.int .i64 a.cn,.int .i64 a.co,.int .u32 a.cr] 40 (0,0))):=Lib.hid (by rw [hw5];exact setRow_heap _ _ _ _ _ _ (heap_alloc_new _ _))
  rw [← hw5]
  clear hw5 hd hwi hlt c2 c5
  try simp only [Act.put,List.setIfInBounds_toArray,List.set_cons_zero,List.set_cons_succ]
  obtain ⟨b6,hb6⟩:∃ b6,b6=w4.heap.size:=⟨_,rfl⟩
  rw [← hb6] at K5 ⊢
  clear hb6
  have B5:Hid (Below w.heap.size w w5):=Lib.hid (B4.out.trans (B45.out.mono B4.out.size))
  have G5:=Lib.hid (row_stays G4.out B45.out)
  have a0:=nd_cell K5.out 0 (.int .i64 a.se) rfl
  have a2:=nd_cell K5.out 2 (.int .i64 a.en) rfl
  have g0:=nd_cell G5.out 0 (.int .i64 ese) rfl
  have g1:=nd_cell G5.out 1 (.int .i64 est) rfl
  by_cases hse:a.se=ese
  ·have q1:(a.se == ese)=true:=by simp [hse]
   have q2:decide (a.en ≥ est)=false:=by have:=HA.out;simp;omega
   clear hse
   go_upto_region 9 with (first
    | (go_at_call 63;refine (HBH.out _ B5.out).mono ?_;rintro e w6 ⟨hbr,hb⟩;obtain ⟨k,ok,rfl,hk⟩:=hbr;have HK:=Lib.hid hk;have B6:=Lib.hid (B5.out.trans (hb.mono B5.out.size));have G6:=Lib.hid (row_stays G5.out hb);clear hk hb)
    | (refine wpList_store_row rfl 38 (.tmp 7) (.tmp 47) rfl w6.heap.size #[.int .i64 k.se,.int .i64 k.st] rfl rfl 38 _ (heap_alloc_new _ _) (by kernel_rfl) rfl (by simp [Value.oneCell']) ?_))
   obtain ⟨w7,hw7⟩:∃ w7,w7=(w6.alloc (.cells #[.int .i64 0,.int .i64 0] 38)).setRow w6.heap.size #[.int .i64 k.se,.int .i64 k.st]:=⟨_,rfl⟩
   have B67:Hid (Below w6.heap.size w6 w7):=Lib.hid (by rw [hw7];exact below_setRow (alloc_bel rfl) (Nat.le_refl _) _)
   have K7:Hid (w7.heap[w6.heap.size]?=some (.cells #[.int .i64 k.se,.int .i64 k.st] 38 (0,0))):=Lib.hid (by rw [hw7];exact setRow_heap _ _ _ _ _ _ (heap_alloc_new _ _))
   rw [← hw7]
   clear hw7
   try simp only [Act.put,List.setIfInBounds_toArray,List.set_cons_zero,List.set_cons_succ]
   have B7:Hid (Below w.heap.size w w7):=Lib.hid (B6.out.trans (B67.out.mono B6.out.size))
   have G7:=Lib.hid (row_stays G6.out B67.out)
   have k0:=nd_cell K7.out 0 (.int .i64 k.se) rfl
   have k1:=nd_cell K7.out 1 (.int .i64 k.st) rfl
   have j0:=nd_cell G7.out 0 (.int .i64 ese) rfl
   have j2:=nd_cell G7.out 2 (.int .i64 een) rfl
   cases ok
   ·go_wp2_with fail
    go_ret
    exact ⟨rfl,B7.out⟩
   ·have HKK:=Lib.hid (HK.out rfl)
    by_cases hke:k.se=ese
    ·have q1:(k.se == ese)=true:=by simp [hke]
     have q2:decide (k.st≤een)=false:=by have:=HKK.out;simp;omega
     clear hke
     go_wp2_with fail
     go_ret
     exact ⟨rfl,B7.out⟩
    ·have q1:(k.se == ese)=false:=by simp [hke]
     clear hke
     go_wp2_with fail
     go_ret
     exact ⟨rfl,B7.out⟩
  ·have q1:(a.se == ese)=false:=by simp [hse]
   clear hse
   go_upto_region 9 with (first
    | (go_at_call 63;refine (HBH.out _ B5.out).mono ?_;rintro e w6 ⟨hbr,hb⟩;obtain ⟨k,ok,rfl,hk⟩:=hbr;have HK:=Lib.hid hk;have B6:=Lib.hid (B5.out.trans (hb.mono B5.out.size));have G6:=Lib.hid (row_stays G5.out hb);clear hk hb)
    | (refine wpList_store_row rfl 38 (.tmp 7) (.tmp 47) rfl w6.heap.size #[.int .i64 k.se,.int .i64 k.st] rfl rfl 38 _ (heap_alloc_new _ _) (by kernel_rfl) rfl (by simp [Value.oneCell']) ?_))
   obtain ⟨w7,hw7⟩:∃ w7,w7=(w6.alloc (.cells #[.int .i64 0,.int .i64 0] 38)).setRow w6.heap.size #[.int .i64 k.se,.int .i64 k.st]:=⟨_,rfl⟩
   have B67:Hid (Below w6.heap.size w6 w7):=Lib.hid (by rw [hw7];exact below_setRow (alloc_bel rfl) (Nat.le_refl _) _)
   have K7:Hid (w7.heap[w6.heap.size]?=some (.cells #[.int .i64 k.se,.int .i64 k.st] 38 (0,0))):=Lib.hid (by rw [hw7];exact setRow_heap _ _ _ _ _ _ (heap_alloc_new _ _))
   rw [← hw7]
   clear hw7
   try simp only [Act.put,List.setIfInBounds_toArray,List.set_cons_zero,List.set_cons_succ]
   have B7:Hid (Below w.heap.size w w7):=Lib.hid (B6.out.trans (B67.out.mono B6.out.size))
   have G7:=Lib.hid (row_stays G6.out B67.out)
   have k0:=nd_cell K7.out 0 (.int .i64 k.se) rfl
   have k1:=nd_cell K7.out 1 (.int .i64 k.st) rfl
   have j0:=nd_cell G7.out 0 (.int .i64 ese) rfl
   have j2:=nd_cell G7.out 2 (.int .i64 een) rfl
   cases ok
   ·go_wp2_with fail
    go_ret
    exact ⟨rfl,B7.out⟩
   ·have HKK:=Lib.hid (HK.out rfl)
    by_cases hke:k.se=ese
    ·have q1:(k.se == ese)=true:=by simp [hke]
     have q2:decide (k.st≤een)=false:=by have:=HKK.out;simp;omega
     clear hke
     go_wp2_with fail
     go_ret
     exact ⟨rfl,B7.out⟩
    ·have q1:(k.se == ese)=false:=by simp [hke]
     clear hke
     go_wp2_with fail
     go_ret
     exact ⟨rfl,B7.out⟩
 ·have hd:decide ((xr:Int) > 0)=false:=by simp;omega
  go_upto_region 9 with (first
   | (go_at_call 63;refine (HBH.out _ B4.out).mono ?_;rintro e w6 ⟨hbr,hb⟩;obtain ⟨k,ok,rfl,hk⟩:=hbr;have HK:=Lib.hid hk;have B6:=Lib.hid (B4.out.trans (hb.mono B4.out.size));have G6:=Lib.hid (row_stays G4.out hb);clear hk hb)
   | (refine wpList_store_row rfl 38 (.tmp 7) (.tmp 47) rfl w6.heap.size #[.int .i64 k.se,.int .i64 k.st] rfl rfl 38 _ (heap_alloc_new _ _) (by kernel_rfl) rfl (by simp [Value.oneCell']) ?_))
  obtain ⟨w7,hw7⟩:∃ w7,w7=(w6.alloc (.cells #[.int .i64 0,.int .i64 0] 38)).setRow w6.heap.size #[.int .i64 k.se,.int .i64 k.st]:=⟨_,rfl⟩
  have B67:Hid (Below w6.heap.size w6 w7):=Lib.hid (by rw [hw7];exact below_setRow (alloc_bel rfl) (Nat.le_refl _) _)
  have K7:Hid (w7.heap[w6.heap.size]?=some (.cells #[.int .i64 k.se,.int .i64 k.st] 38 (0,0))):=Lib.hid (by rw [hw7];exact setRow_heap _ _ _ _ _ _ (heap_alloc_new _ _))
  rw [← hw7]
  clear hw7
  try simp only [Act.put,List.setIfInBounds_toArray,List.set_cons_zero,List.set_cons_succ]
  have B7:Hid (Below w.heap.size w w7):=Lib.hid (B6.out.trans (B67.out.mono B6.out.size))
  have G7:=Lib.hid (row_stays G6.out B67.out)
  have k0:=nd_cell K7.out 0 (.int .i64 k.se) rfl
  have k1:=nd_cell K7.out 1 (.int .i64 k.st) rfl
  have j0:=nd_cell G7.out 0 (.int .i64 ese) rfl
  have j2:=nd_cell G7.out 2 (.int .i64 een) rfl
  cases ok
  ·go_wp2_with fail
   go_ret
   exact ⟨rfl,B7.out⟩
  ·have HKK:=Lib.hid (HK.out rfl)
   by_cases hke:k.se=ese
   ·have q1:(k.se == ese)=true:=by simp [hke]
    have q2:decide (k.st≤een)=false:=by have:=HKK.out;simp;omega
    clear hke
    go_wp2_with fail
    go_ret
    exact ⟨rfl,B7.out⟩
   ·have q1:(k.se == ese)=false:=by simp [hke]
    clear hke
    go_wp2_with fail
    go_ret
    exact ⟨rfl,B7.out⟩
end Go.Proofs.YtgkddhncfaeidaaGreat
namespace Go.Proofs.YtgkddhncfaeidaaGreat
open Go.RowKit CrcM PageM
theorem Tre.least_mem {rd:Nat→NodeD→Prop} {h:Nat} {n:NodeD} {es:List EntD} (ht:Tre rd h n es) (h1:1≤es.length):∃ e ∈ es,leastK n=e.key:=by
 obtain ⟨e,he,hk⟩:=ht.least h1
 exact ⟨e,List.mem_of_getElem? he,hk⟩
theorem Down.right {rd:Nat→NodeD→Prop} {k:KeyD}:∀ {h a:Nat} {n:NodeD} {es:List EntD} {ss:List StepD},Tre rd h n es→Down rd k h a n es ss→(∀ e ∈ es,lessB e.key k=true) →
 (∀ (i:Nat) (x:StepD),ss[i]?=some x→i<h→x.at_+1=x.n.ds.length∧x.n.ks.length=x.n.ds.length)∧∃ x Y,ss[h]?=some x∧x.at_=x.n.es.length∧es=Y ++ x.n.es
 | 0,a,n,es,ss,⟨h1,h2,h3,h4⟩,⟨r,hp,e⟩,hl=>by
   refine ⟨fun i x _ hi=>by omega,⟨a,n,r⟩,[],by rw [e];rfl,?_,by rw [h2];rfl⟩
   unfold PlaceOf at hp
   rw [if_pos h1] at hp
   have h5:=hp.le
   rw [List.length_map] at h5
   by_cases h6:r=n.es.length
   ·exact h6
   ·exfalso
    have h7:r<n.es.length:=by omega
    have h8:=hp.hi r (n.es[r]).key (Nat.le_refl _) (by rw [List.getElem?_map,List.getElem?_eq_getElem h7];rfl)
    rw [hl _ (by rw [← h2];exact List.getElem_mem h7)] at h8
    cases h8
 | h+1,a,n,es,ss,ht,⟨r,parts,x,ss',hp,e1,e2,e3,e4,hx,hd,e⟩,hl=>by
   have hxm:=List.mem_of_getElem? hx
   obtain ⟨r1,r2,r3⟩:=e3 x hxm
   have hlf:n.leaf=false:=ht.1
   have hsub:∀ y ∈ parts,∀ e ∈ y.2.2,e ∈ es:=fun y hy e he=>by rw [e4];exact List.mem_flatMap.2 ⟨y,hy,he⟩
   obtain ⟨q1,y,Y,q2,q3,q4⟩:=Down.right r2 hd (fun e he=>hl e (hsub x hxm e he))
   have hrl:r<parts.length:=(List.getElem?_eq_some_iff.1 hx).1
   have hlast:r+1=parts.length:=by
    by_cases h6:r+1=parts.length
    ·exact h6
    ·exfalso
     have h7:r+1<parts.length:=by omega
     unfold PlaceOf at hp
     rw [if_neg (by rw [hlf];decide)] at hp
     have hz:=e3 _ (List.getElem_mem h7)
     have h8:=hp.hi (r+1) (leastK (parts[r+1]).2.1) (by omega) (by rw [e2,List.getElem?_map,List.getElem?_eq_getElem h7];rfl)
     obtain ⟨e,he,hk⟩:=hz.2.1.least_mem hz.2.2
     have h9:=hl e (hsub _ (List.getElem_mem h7) e he)
     rw [hk,lessB_asymm h9] at h8
     cases h8
   refine ⟨fun i z hz hi=>?_,y,esOf (parts.take r) ++ Y,by rw [e];exact q2,q3,?_⟩
   ·rw [e] at hz
    cases i with
    | zero =>
      obtain rfl:(⟨a,n,r⟩:StepD)=z:=by simpa using hz
      dsimp only
      rw [e1,e2,List.length_map,List.length_map]
      exact ⟨hlast,rfl⟩
    | succ i=>exact q1 i z (by simpa using hz) (by omega)
   ·rw [e4,List.append_assoc,← q4]
    have h5:parts=parts.take r ++ [x]:=by
     have h6:=List.take_append_drop r parts
     rw [List.drop_eq_getElem_cons hrl,(List.getElem?_eq_some_iff.1 hx).2,List.drop_of_length_le (by omega)] at h6
     exact h6.symm
    conv=>lhs;rw [h5]
    rw [List.flatMap_append]
    simp [esOf]
theorem good_last {es E0 Ej E' Y:List EntD} {e:EntD} (hg:GoodE es) (he:okEnt e∧inEnt e) (ha:∀ x ∈ es,apartB x e=true) (hs:es=Y ++ E0) (h0:1≤E0.length) (hj:Ej.Sublist es) (hr:Rep E0 (E0 ++ [e]) Ej E'):E'=Ej ++ [e]∧GoodE E':=by
 obtain ⟨X,Z,r1,r2⟩:=hr
 have hgj:=hg.sub hj
 have hZ:Z=[]:=by
  cases hZ:Z with
  | nil=>rfl
  | cons z t =>
    exfalso
    obtain ⟨A,l,hA⟩:∃ A l,E0=A ++ [l]:=by
     rcases List.eq_nil_or_concat E0 with h | ⟨A,l,h⟩
     ·rw [h] at h0
      simp at h0
     ·exact ⟨A,l,by rw [h];simp⟩
    have h1:apartB l z=true:=by
     have h2:=hgj.1
     rw [r1,hA,hZ] at h2
     unfold Apt at h2
     rw [List.pairwise_append] at h2
     exact h2.2.2 l (by simp) z (by simp)
    have hz:z ∈ es:=hj.subset (by rw [r1,hZ];simp)
    have h3:=apt_less h1
    rw [hs,hA,← List.append_assoc] at hz
    rcases List.mem_append.1 hz with hz | hz
    ·have h4:apartB z l=true:=by
      have h2:=hg.1
      unfold Apt at h2
      rw [hs,hA,← List.append_assoc,List.pairwise_append] at h2
      exact h2.2.2 z hz l (by simp)
     have h5:=lessB_asymm (apt_less h4)
     rw [h3] at h5
     cases h5
    ·rw [List.mem_singleton.1 hz,lessB_irrefl] at h3
     cases h3
 rw [hZ,List.append_nil] at r1 r2
 have hE:E'=Ej ++ [e]:=by rw [r2,r1,List.append_assoc]
 refine ⟨hE,?_⟩
 rw [hE]
 refine ⟨?_,fun x hx=>?_⟩
 ·unfold Apt
  rw [List.pairwise_append]
  refine ⟨hgj.1,List.pairwise_singleton _ _,fun x hx y hy=>?_⟩
  rw [List.mem_singleton.1 hy]
  exact ha x (hj.subset hx)
 ·rcases List.mem_append.1 hx with hx | hx
  ·exact hgj.2 x hx
  ·rw [List.mem_singleton.1 hx]
   exact he
end Go.Proofs.YtgkddhncfaeidaaGreat
