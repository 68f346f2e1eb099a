/- Squeezed: the texts as they are written lie in wip/tpl. -/
import Derived.Test.YtgkddhncfaeidaaGreatPart17
import Derived.Test.YtgkddhncfaeidaaGreatPart13
import Derived.Test.YtgkddhncfaeidaaGreatPart20
import Derived.Test.YtgkddhncfaeidaaGreatPart12
import Derived.Test.YtgkddhncfaeidaaGreatPart09
set_option maxRecDepth 100000
set_option maxHeartbeats 4000000
set_option linter.unnecessarySimpa false
set_option linter.unusedSimpArgs false
set_option linter.unusedVariables false
namespace Go.Proofs.YtgkddhncfaeidaaGreat
open Go.RowKit CrcM PageM
structure OutT (gc B0:Nat) (T:TypeId) (w w':World):Prop where
 os:w'.os=w.os
 tape:w'.tape=w.tape
 output:w'.output=w.output
 size:w.heap.size≤w'.heap.size
 block:∀ k,k<w.heap.size→k≠gc→(B0≤k→∀ cs fr,w.heap[k]?≠some (.cells cs T fr))→w'.heap[k]?=w.heap[k]?
section
variable {gc B0:Nat} {T:TypeId} {w w1 w2:World}
theorem OutT.of_below (h:Below w.heap.size w w1):OutT gc B0 T w w1:=⟨h.os,h.tape,h.output,h.size,fun k hk _ _=>h.block k hk⟩
theorem OutT.trans (h:OutT gc B0 T w w1) (k:OutT gc B0 T w1 w2):OutT gc B0 T w w2 :=
 ⟨k.os.trans h.os,k.tape.trans h.tape,k.output.trans h.output,Nat.le_trans h.size k.size,fun i hi hg hT=>by
  have h1:=h.block i hi hg hT
  exact (k.block i (Nat.lt_of_lt_of_le hi h.size) hg (fun hb cs fr=>by rw [h1];exact hT hb cs fr)).trans h1⟩
theorem OutT.of_outer (h:OuterX (fun k=>k=gc) w w1):OutT gc B0 T w w1:=⟨h.os,h.tape,h.output,h.size,fun k hk hg _=>h.block k hk hg⟩
theorem OutT.of_row {sz n:Nat} {v:Value} {us:List Value} (R:w.ownsRow B0 T sz v n us) (g:w.grownBy w1 v.ownBlock):OutT gc B0 T w w1 :=
 ⟨g.os,g.tape,g.output,g.size,fun k hk _ hT=>g.block k hk (fun e=>by
  rcases R.2 with ⟨rfl,_⟩ | ⟨q,cap,cur,rfl,hb,hq,_⟩
  ·simp [Value.ownBlock] at e
  ·obtain rfl:k=q:=by simpa [Value.ownBlock] using e
   exact hT hb _ _ hq)⟩
theorem OutT.of_gc (g:w.grownBy w1 (some gc)):OutT gc B0 T w w1:=⟨g.os,g.tape,g.output,g.size,fun k hk hne _=>g.block k hk (fun e=>hne (by cases e;rfl))⟩
theorem OutT.below (h:OutT gc B0 T w w1) (hg:B0≤gc) (hB:B0≤w.heap.size):Below B0 w w1:=⟨h.os,h.tape,h.output,h.size,fun k hk=>h.block k (Nat.lt_of_lt_of_le hk hB) (by omega) (fun hb=>by omega)⟩
theorem OutT.typed (h:OutT gc B0 T w w1) {k:Nat} {cs:Array Value} {T2:TypeId} {fr:Nat × Nat} (hk:w.heap[k]?=some (.cells cs T2 fr)) (hne:T2≠T) (hg:k≠gc):w1.heap[k]?=w.heap[k]? :=
 h.block k (Array.getElem?_eq_some_iff.1 hk).1 hg (fun _ cs' fr' e=>by rw [hk] at e;cases e;exact hne rfl)
theorem OutT.row (h:OutT gc B0 T w w1) {b sz n:Nat} {E:TypeId} {v:Value} {us:List Value} (R:w.ownsRow b E sz v n us) (hne:E≠T) {cs:Array Value} {Tg:TypeId} {fr:Nat × Nat} (hgc:w.heap[gc]?=some (.cells cs Tg fr)) (hg:E≠Tg):w1.ownsRow b E sz v n us :=
 row_keep R (fun k cur _ hc=>h.typed hc hne (fun e=>by subst e;rw [hc] at hgc;cases hgc;exact hg rfl))
end
def HasTy (w:World) (A:Option Addr) (T:TypeId):Prop:=∃ b off cs fr,A=some ⟨b,off,none⟩∧w.heap[b]?=some (.cells cs T fr)
structure NodeT (w:World) (n:NodeD) (l:NdL):Prop where
 at_:NodeAt w n l
 te:n.es≠[]→HasTy w l.EA 40
 tk:n.ks≠[]→HasTy w l.KA 38
 td:n.ds≠[]→HasTy w l.DA 3
theorem NodeT.keep {w w1:World} {n:NodeD} {l:NdL} (h:NodeT w n l) (hk:∀ (b:Nat) (cs:Array Value) (T:TypeId) (fr:Nat × Nat),w.heap[b]?=some (Obj.cells cs T fr)→T=40∨T=38∨T=3→w1.heap[b]?=w.heap[b]?):NodeT w1 n l where
 at_:={ h.at_ with
  e:=fun hne=>by
    obtain ⟨b,off,hA,hc⟩:=h.at_.e hne
    obtain ⟨b',off',cs,fr,hA',hb⟩:=h.te hne
    rw [hA] at hA'
    cases hA'
    have hw:=hk b cs _ fr hb (.inl rfl)
    refine ⟨b,off,hA,fun i e he=>?_⟩
    obtain ⟨k0,k1,k2,k3,k4,k5,k6,k7⟩:=hc i e he
    have q:∀ o v,w.cell? ⟨b,o,none⟩=some v→w1.cell? ⟨b,o,none⟩=some v:=fun o v hv=>(World.cell?_of_block (a:=⟨b,o,none⟩) hw).trans hv
    exact ⟨q _ _ k0,q _ _ k1,q _ _ k2,q _ _ k3,q _ _ k4,q _ _ k5,q _ _ k6,q _ _ k7⟩
  k:=fun hne=>by
    obtain ⟨b,off,hA,hc⟩:=h.at_.k hne
    obtain ⟨b',off',cs,fr,hA',hb⟩:=h.tk hne
    rw [hA] at hA'
    cases hA'
    have hw:=hk b cs _ fr hb (.inr (.inl rfl))
    refine ⟨b,off,hA,fun i e he=>?_⟩
    obtain ⟨k0,k1⟩:=hc i e he
    have q:∀ o v,w.cell? ⟨b,o,none⟩=some v→w1.cell? ⟨b,o,none⟩=some v:=fun o v hv=>(World.cell?_of_block (a:=⟨b,o,none⟩) hw).trans hv
    exact ⟨q _ _ k0,q _ _ k1⟩
  d:=fun hne=>by
    obtain ⟨b,off,hA,hc⟩:=h.at_.d hne
    obtain ⟨b',off',cs,fr,hA',hb⟩:=h.td hne
    rw [hA] at hA'
    cases hA'
    have hw:=hk b cs _ fr hb (.inr (.inr rfl))
    exact ⟨b,off,hA,fun i e he=>(World.cell?_of_block (a:=⟨b,off+i,none⟩) hw).trans (hc i e he)⟩ }
 te:=fun hne=>by obtain ⟨b,off,cs,fr,hA,hb⟩:=h.te hne;exact ⟨b,off,cs,fr,hA,(hk b cs _ fr hb (.inl rfl)).trans hb⟩
 tk:=fun hne=>by obtain ⟨b,off,cs,fr,hA,hb⟩:=h.tk hne;exact ⟨b,off,cs,fr,hA,(hk b cs _ fr hb (.inr (.inl rfl))).trans hb⟩
 td:=fun hne=>by obtain ⟨b,off,cs,fr,hA,hb⟩:=h.td hne;exact ⟨b,off,cs,fr,hA,(hk b cs _ fr hb (.inr (.inr rfl))).trans hb⟩
theorem NodeT.below {w w1:World} {n:NodeD} {l:NdL} (h:NodeT w n l) (hb:Below w.heap.size w w1):NodeT w1 n l :=
 h.keep (fun b cs T fr hc _=>hb.block b (Array.getElem?_eq_some_iff.1 hc).1)
theorem NodeT.outT {w w1:World} {n:NodeD} {l:NdL} {gc B0:Nat} (h:NodeT w n l) (ho:OutT gc B0 151 w w1) {cs:Array Value} {fr:Nat × Nat} (hgc:w.heap[gc]?=some (.cells cs 114 fr)):NodeT w1 n l :=
 h.keep (fun b cs' T fr' hc hT=>ho.typed hc (by rcases hT with rfl | rfl | rfl <;> decide) (fun e=>by subst e;rw [hc] at hgc;cases hgc;revert hT;decide))
end Go.Proofs.YtgkddhncfaeidaaGreat
namespace Go.Proofs.YtgkddhncfaeidaaGreat
open Go.RowKit
structure SubX (X:Nat→Prop) (w:World) where
 at_:World
 ok_:OuterX X w at_
instance (X:Nat→Prop) (w:World):Nonempty (SubX X w):=⟨⟨w,OuterX.refl X w⟩⟩
theorem region_waysX {P:Program} {id:Nat} {Q:Exit→Act→World→Prop} {a:Act} {w:World} {l:List Oper} (n:Nat) (X:Nat→Prop) (t:Ways4) (hm:P.follows .mixedOrders=true) (hB:waysOKT l.toArray n t=true)
 (h:∀ w',Below w.heap.size w w'→wpWaysT P l.toArray Q (fun w'=>∃ x:SubX X w,w'=x.at_) (l.drop n) t a w'):(Code.region id l.toArray true).wp P Q a w:=by
 simp only [waysOKT,Bool.and_eq_true,decide_eq_true_eq] at hB
 obtain ⟨⟨⟨⟨⟨hsel,hn⟩,hs⟩,hc⟩,hN⟩,hT⟩:=hB
 have hb:=below_drewN (Below.refl w.heap.size w) 1
 have hdl:(l.drop n).length=l.toArray.size - n:=by simp
 have inv0:HeadInv .any l.toArray n (Array.replicate l.toArray.size false) :=
  ⟨by simp,fun j oj _ hl=>(by rw [getD_replicate_false] at hl;cases hl),fun t _ ht=>getD_in (by simpa using ht) (getD_replicate_false _ _)⟩
 have H:=anyHT_of_ways (md:=.any) (S:=fun w'=>∃ x:SubX X w,w'=x.at_) hsel hs hc hn t n _ a _ ⟨⟨_,outerX_of_below hb⟩,rfl⟩ inv0 hN hT (h _ hb)
 refine wp_region_noPanic (wp_region_any hm ?_)
 have:=any_of_HT (g:=l.toArray.size - n) (fun listed a' w' hL=>by
  have h2:=hL.2
  rw [then_noPanic] at h2
  have:=wpAny_of_seq (md:=.any) (Q':=NoPanic Q) (l.drop n) n listed a' w' (fun j=>by simp [List.getElem?_drop]) (by rw [hdl];exact hL.1) h2
  rwa [hdl] at this) n _ a _ H
 rwa [show n+(l.toArray.size - n)=l.toArray.size by omega] at this
theorem OuterX.heap {X:Nat→Prop} {w w1:World} (h:OuterX X w w1) {k:Nat} {o:Obj} (hk:w.heap[k]?=some o) (hX:¬ X k):w1.heap[k]?=some o:=(h.block k (Array.getElem?_eq_some_iff.1 hk).1 hX).trans hk
theorem quietX_load_row {P:Program} {o:Oper} {a:Act} {X:Nat→Prop} {w0:World} {K:Act→Prop} (ty:TypeId) (x:Operand) (ho:o.op=.load ty x)
 (g:Nat) (hx:a.eval x=.pointer (some ⟨g,0,none⟩)) (t:TypeId) (cs:Array Value) (fr:Nat × Nat) (d:TypeDesc) (hg:∀ y:SubX X w0,y.at_.heap[g]?=some (.cells cs t fr))
 (hu:P.underlying ty=some d) (hd:(match d with | .struct _ | .array _ _=>true | _=>false)=true) (hi:(P.info? ty).map (·.size)=some cs.size)
 (h:K (a.put o.dst (.agg cs))):o.quiet P a (fun w'=>∃ x:SubX X w0,w'=x.at_) K:=by
 refine ⟨.agg cs,?_,h⟩
 rintro w ⟨y,rfl⟩
 unfold Oper.quietAt execOp
 simp only [ho,hx,Instr.loadAt,Instr.sureAddr,Sem.run_bind,Sem.run_pure,Result.andThen_ok,run_loadVar_row y.at_ g t ty cs fr d (hg y) hu hd hi]
 exact ⟨rfl,rfl⟩
theorem quietX_load_mid {P:Program} {o:Oper} {a:Act} {X:Nat→Prop} {w0:World} {K:Act→Prop} (ty:TypeId) (x:Operand) (ho:o.op=.load ty x)
 (g off:Nat) (hx:a.eval x=.pointer (some ⟨g,off,none⟩)) (cs:List Value) (d:TypeDesc) (hg:∀ y:SubX X w0,y.at_.rangeAt g off cs)
 (hu:P.underlying ty=some d) (hd:d.isRow=true) (hi:(P.info? ty).map (·.size)=some cs.length)
 (h:K (a.put o.dst (.agg cs.toArray))):o.quiet P a (fun w'=>∃ x:SubX X w0,w'=x.at_) K:=by
 refine ⟨.agg cs.toArray,?_,h⟩
 rintro w ⟨y,rfl⟩
 unfold Oper.quietAt execOp
 simp only [ho,hx,run_loadAt_mid y.at_ g off ty cs d (hg y) hu hd hi,Sem.run_bind,Sem.run_pure,Result.andThen_ok]
 exact ⟨rfl,rfl⟩
end Go.Proofs.YtgkddhncfaeidaaGreat
namespace Go.Proofs.YtgkddhncfaeidaaGreat
open Go.RowKit Go.ChangeShapes Go.WideShapes Go.ChangeAt CrcM PageM
def ldC (x:Nat × (NodeD × NdL)):List Value:=.int .i64 (x.1:Int) :: ndP x.2
theorem lenLdC (x:Nat × (NodeD × NdL)):(ldC x).length=5:=rfl
theorem ldC_one (x:Nat × (NodeD × NdL)):∀ u ∈ ldC x,u.oneCell'=true:=by
 intro u hu
 simp only [ldC,List.mem_cons] at hu
 rcases hu with rfl | hu
 ·rfl
 ·exact ndP_one _ u hu
theorem infoLaid:(Tryz.prog.info? 151).map (fun i=>(i.zero,i.size,i.bytes))=some (some (.agg #[.int .i64 0,.bool false,.slice none 0 0,.slice none 0 0,.slice none 0 0]),5,88):=by kernel_rfl
structure ChgS (w:World) (gc gv p B0:Nat) (U V:List Bool) (lv:Value) (L:List (Nat × (NodeD × NdL))):Prop where
 chg:ChgAt w gc gv (p:Int) U V lv
 row:w.ownsRow B0 151 5 lv L.length (L.flatMap ldC)
 B0:B0≤gc
theorem ChgS.below {w w1:World} {gc gv p B0:Nat} {U V:List Bool} {lv:Value} {L:List (Nat × (NodeD × NdL))} (h:ChgS w gc gv p B0 U V lv L) (hb:Below w.heap.size w w1):ChgS w1 gc gv p B0 U V lv L:=⟨h.chg.below hb,row_below h.row hb,h.B0⟩
theorem row_ne_typed {w:World} {gc gv k:Nat} {p:Int} {U V:List Bool} {lv:Value} {cs:Array Value} {T:TypeId} {fr:Nat × Nat} (h:ChgAt w gc gv p U V lv) (e:k=gc) (hk:w.heap[k]?=some (.cells cs T fr)) (hne:T≠114):False:=by
 subst e
 rw [show w.heap[k]?=_ from h] at hk
 cases hk
 exact hne rfl
theorem ChgAt.ne_row {w:World} {gc gv:Nat} {p:Int} {U V:List Bool} {lv:Value} (h:ChgAt w gc gv p U V lv) {base sz n:Nat} {E:TypeId} {v:Value} {us:List Value} (R:w.ownsRow base E sz v n us) (hne:E≠114):some gc≠v.ownBlock:=by
 rcases R.2 with ⟨rfl,_⟩ | ⟨q,cap,cur,rfl,hb,hq,_⟩
 ·simp [Value.ownBlock]
 ·intro e
  obtain rfl:gc=q:=by simpa [Value.ownBlock] using e
  exact row_ne_typed h rfl hq hne
theorem lay_by (gc gv p B0:Nat) (U V:List Bool) (lv:Value) (L:List (Nat × (NodeD × NdL))) (hU:U.length=512) (hV:V.length=512) (a:Nat) (x:NodeD × NdL) (hL:L.length≤100000) (w:World) (h:ChgS w gc gv p B0 U V lv L) (htk:∀ W,Below w.heap.size w W→Calls Tryz.prog 81 #[.pointer (some ⟨gc,0,none⟩)] W fun e w'=>e=.returned (.tuple #[.int .i64 (a:Int),.int .i64 0])∧ChgAt w' gc gv (p:Int) (markN U a true 1) V lv∧OuterX (fun k=>k=gc) W w') :
 Calls Tryz.prog 54 #[.pointer (some ⟨gc,0,none⟩),.agg #[.bool x.1.leaf,.slice x.2.EA x.1.es.length x.2.ec,.slice x.2.KA x.1.ks.length x.2.kc,.slice x.2.DA x.1.ds.length x.2.dc]] w fun e w'=>e=.returned (.tuple #[.int .i64 (a:Int),.int .i64 0])∧(∃ lv',ChgS w' gc gv p B0 (markN U a true 1) V lv' (L ++ [(a,x)]))∧OutT gc B0 151 w w':=by
 have H:=Lib.hid h
 have HU:=Lib.hid hU
 have HV:=Lib.hid hV
 have HTK:Hid (∀ W,Below w.heap.size w W→Calls Tryz.prog 81 #[.pointer (some ⟨gc,0,none⟩)] W fun e w'=>e=.returned (.tuple #[.int .i64 (a:Int),.int .i64 0])∧ChgAt w' gc gv (p:Int) (markN U a true 1) V lv∧OuterX (fun k=>k=gc) W w'):=Lib.hid htk
 obtain ⟨U',hU'⟩:∃ U',U'=markN U a true 1:=⟨_,rfl⟩
 have HU':Hid (U'.length=512):=Lib.hid (by rw [hU',length_markN];exact hU)
 rw [← hU'] at HTK
 rw [← hU']
 have HLL:=Lib.hid hL
 have HB0:=Lib.hid h.B0
 clear hU' h hU hV htk hL
 obtain ⟨w1,hw1⟩:∃ w1,w1=w.alloc (.cells #[.bool x.1.leaf,.slice x.2.EA x.1.es.length x.2.ec,.slice x.2.KA x.1.ks.length x.2.kc,.slice x.2.DA x.1.ds.length x.2.dc] 86):=⟨_,rfl⟩
 have G1:Hid (w1.heap[w.heap.size]?=some (.cells #[.bool x.1.leaf,.slice x.2.EA x.1.es.length x.2.ec,.slice x.2.KA x.1.ks.length x.2.kc,.slice x.2.DA x.1.ds.length x.2.dc] 86 (0,0))):=Lib.hid (by rw [hw1];exact heap_alloc_new _ _)
 have B1:=Lib.hid (alloc_bel hw1)
 have HC1:=Lib.hid (H.out.below B1.out)
 go_enter Tryz.func54,Tryz.ntmps54
 go_upto_region 1 with fail
 rw [← hw1]
 clear hw1
 go_upto_region 4 with (go_at_call 81;refine (HTK.out _ B1.out).mono ?_;rintro e w2 ⟨rfl,hc2,ho2⟩;have C2:=Lib.hid hc2;have O2:Hid (OutT gc B0 151 w1 w2):=Lib.hid (OutT.of_outer ho2);have R2:=Lib.hid (row_keep HC1.out.row (fun k cur _ hc=>ho2.block k (Array.getElem?_eq_some_iff.1 hc).1 (fun e=>row_ne_typed HC1.out.chg e hc (by decide))));clear hc2 ho2)
 have G2:Hid (w2.heap[w.heap.size]?=some (.cells #[.bool x.1.leaf,.slice x.2.EA x.1.es.length x.2.ec,.slice x.2.KA x.1.ks.length x.2.kc,.slice x.2.DA x.1.ds.length x.2.dc] 86 (0,0))):=Lib.hid ((O2.out.typed G1.out (by decide) (fun e=>row_ne_typed HC1.out.chg e G1.out (by decide))).trans G1.out)
 have hX1:¬ (lv.ownBlock=some gc):=fun e=>(C2.out.ne_row R2.out (by decide)) e.symm
 have hX2:¬ (lv.ownBlock=some w.heap.size):=fun e=>by
  have h1:=(World.ownsRow.lt H.out.row _ e).2
  omega
 have g1:∀ y:SubX (fun k=>lv.ownBlock=some k) w2,y.at_.cell? ⟨gc,1027,none⟩=some lv:=fun y=>(C2.out.keep (y.ok_.block _ C2.out.lt hX1)).cl HU'.out HV.out
 have g2:∀ y:SubX (fun k=>lv.ownBlock=some k) w2,y.at_.heap[w.heap.size]?=some (.cells #[.bool x.1.leaf,.slice x.2.EA x.1.es.length x.2.ec,.slice x.2.KA x.1.ks.length x.2.kc,.slice x.2.DA x.1.ds.length x.2.dc] 86 (0,0)):=fun y=>y.ok_.heap G2.out hX2
 refine region_waysX 12 (fun k=>lv.ownBlock=some k) (.one [0,1,2,3,4,5,6,7] 8 (.one [] 9 (.done [10,11]))) (by kernel_rfl) (by kernel_rfl) ?_
 rintro wd hbd
 have BD:=Lib.hid hbd
 clear hbd
 rw [wpWaysT_one]
 try simp only [List.map_cons,List.map_nil,opAt,List.getElem?_toArray,List.getElem?_cons_zero,List.getElem?_cons_succ,Option.getD_some]
 repeat (first
  | (go_big_quiet_want;refine quietX_load_row 86 (.tmp 3) rfl w.heap.size rfl 86 _ (0,0) _ g2 Tryz.underlying86 rfl (by kernel_rfl) ?_;simp only [Act.put,List.setIfInBounds_toArray,List.set_cons_zero,List.set_cons_succ];go_big_quiet_on)
  | go_big_quiet_step (fail))
 clear g1 g2
 refine wpQuiet_nil ?_
 go_wp2_with fail
 obtain ⟨wz,hwz⟩:∃ wz,wz=wd.alloc (.cells #[.int .i64 (a:Int),.bool x.1.leaf,.slice x.2.EA x.1.es.length x.2.ec,.slice x.2.KA x.1.ks.length x.2.kc,.slice x.2.DA x.1.ds.length x.2.dc] 151):=⟨_,rfl⟩
 rw [← hwz]
 have BZ:=Lib.hid (BD.out.trans ((alloc_bel hwz).mono BD.out.size))
 have CZ:Hid (CellsAt wz (some ⟨wd.heap.size,0,none⟩) (ldC (a,x))):=Lib.hid (by
  rw [hwz]
  exact fun _=>⟨_,0,rfl,fun j hj=>by
   rw [Nat.zero_add]
   exact nd_cell (heap_alloc_new wd _) j _ (by simpa [ldC,ndP] using hj)⟩)
 have RZ:=Lib.hid (row_below R2.out BZ.out)
 clear hwz
 refine ⟨⟨⟨_,outerX_of_below BZ.out⟩,rfl⟩,?_⟩
 try simp only [Act.put,List.setIfInBounds_toArray,List.set_cons_zero,List.set_cons_succ]
 rw [wpWaysT_one]
 try simp only [List.map_cons,List.map_nil,opAt,List.getElem?_toArray,List.getElem?_cons_zero,List.getElem?_cons_succ,Option.getD_some]
 refine wpQuiet_nil ?_
 go_wp2_with (at_builtin;refine wpList_append_row rfl (.tmp 20) (.tmp 24) 112 rfl Tryz.underlying112 (.agg #[.int .i64 0,.bool false,.slice none 0 0,.slice none 0 0,.slice none 0 0]) 88 infoLaid (by rfl) (by decide) _ rfl RZ.out (some ⟨wd.heap.size,0,none⟩) 1 1 rfl rfl CZ.out (ldC_one _) (by have:=HLL.out;omega) (by have:=HLL.out;unfold maxLen;omega) (by have:=(World.ownsRow.lt RZ.out);have:=HB0.out;have:=C2.out.lt;have:=BZ.out.size;omega) (L.length+1) rfl (L.flatMap ldC ++ ldC (a,x)) rfl ?_;intro A1 c1 x1 R1 g1;have OX:Hid (OuterX (fun k=>lv.ownBlock=some k) w2 x1):=Lib.hid ((outerX_of_below BZ.out).grown g1 (fun k hk=>.inl hk));have OT:Hid (OutT gc B0 151 w2 x1):=Lib.hid ((OutT.of_below BZ.out).trans (OutT.of_row RZ.out g1));have RX:=Lib.hid R1;clear R1 g1)
 have CX:=Lib.hid (C2.out.keep (OX.out.block _ C2.out.lt hX1))
 refine ⟨⟨⟨_,OX.out⟩,rfl⟩,?_⟩
 try simp only [Act.put,List.setIfInBounds_toArray,List.set_cons_zero,List.set_cons_succ]
 rw [wpWaysT_done]
 simp only [List.map_cons,List.map_nil,List.drop_succ_cons,List.drop_zero,opAt,List.getElem?_toArray,List.getElem?_cons_zero,List.getElem?_cons_succ,Option.getD_some]
 repeat (first
  | go_big_quiet_step (fail))
 refine wpQuiet_nil ?_
 have k1:=CX.out.cl HU'.out HV.out
 have k2:=CX.out.fr 1027
 go_wp2_with fail
 go_ret2
 refine ⟨rfl,⟨.slice A1 (L.length+1) c1,⟨CX.out.setL HU'.out HV.out _,?_,HB0.out⟩⟩,?_⟩
 ·rw [List.length_append,List.flatMap_append]
  simp only [List.flatMap_cons,List.flatMap_nil,List.append_nil]
  exact RX.out.kept (grown_setC (World.grownBy.refl x1 _) 1027 _) (.inr (CX.out.ne_row RX.out (by decide)).symm)
 ·exact (((OutT.of_below B1.out).trans O2.out).trans OT.out).trans (OutT.of_gc (grown_setC (World.grownBy.refl x1 _) 1027 _))
theorem lay_yes (gc gv p B0:Nat) (U V:List Bool) (lv:Value) (L:List (Nat × (NodeD × NdL))) (hU:U.length=512) (hV:V.length=512) (okU:okM (p:Int) U) (okV:okM (p:Int) V) (a:Nat) (hf:fits p U V 1 a) (hl:∀ a',a'<a→¬ fits p U V 1 a') (x:NodeD × NdL) (hL:L.length≤100000) (w:World) (h:ChgS w gc gv p B0 U V lv L) :
 Calls Tryz.prog 54 #[.pointer (some ⟨gc,0,none⟩),.agg #[.bool x.1.leaf,.slice x.2.EA x.1.es.length x.2.ec,.slice x.2.KA x.1.ks.length x.2.kc,.slice x.2.DA x.1.ds.length x.2.dc]] w fun e w'=>e=.returned (.tuple #[.int .i64 (a:Int),.int .i64 0])∧(∃ lv',ChgS w' gc gv p B0 (markN U a true 1) V lv' (L ++ [(a,x)]))∧OutT gc B0 151 w w' :=
 lay_by gc gv p B0 U V lv L hU hV a x hL w h (fun W hW=>take_yes gc gv p U V lv hU hV okU okV a hf hl W (h.chg.below hW))
end Go.Proofs.YtgkddhncfaeidaaGreat
namespace Go.Proofs.YtgkddhncfaeidaaGreat
open Go.RowKit CrcM PageM
def firstP (p:Nat) (U V:List Bool) (a:Nat):Prop:=fits p U V 1 a∧∀ a',a'<a→¬ fits p U V 1 a'
def marks (U:List Bool) (qs:List Nat):List Bool:=qs.foldl (fun U a=>markN U a true 1) U
def Picks (p:Nat) (V:List Bool):List Bool→List Nat→Prop
 | _,[]=>True
 | U,a :: qs=>firstP p U V a∧Picks p V (markN U a true 1) qs
theorem marks_cons (U:List Bool) (a:Nat) (qs:List Nat):marks U (a :: qs)=marks (markN U a true 1) qs:=rfl
theorem marks_snoc (U:List Bool) (qs:List Nat) (a:Nat):marks U (qs ++ [a])=markN (marks U qs) a true 1:=by simp [marks,List.foldl_append]
theorem marks_append (U:List Bool) (qs bs:List Nat):marks U (qs ++ bs)=marks (marks U qs) bs:=by simp [marks,List.foldl_append]
theorem length_marks (qs:List Nat):∀ U:List Bool,(marks U qs).length=U.length:=by
 induction qs with
 | nil=>intro U;rfl
 | cons a qs ih=>intro U;rw [marks_cons,ih,length_markN]
theorem Picks.append {p:Nat} {V:List Bool}:∀ {qs bs:List Nat} {U:List Bool},Picks p V U (qs ++ bs)→Picks p V U qs∧Picks p V (marks U qs) bs
 | [],_,_,h=>⟨trivial,h⟩
 | a :: qs,bs,U,h=>⟨⟨h.1,(Picks.append h.2).1⟩,(Picks.append h.2).2⟩
theorem Picks.at {p:Nat} {V:List Bool} {qs:List Nat} {U:List Bool} (h:Picks p V U qs) {k a:Nat} (ha:qs[k]?=some a):firstP p (marks U (qs.take k)) V a:=by
 have hk:k<qs.length:=(List.getElem?_eq_some_iff.1 ha).1
 have e:qs.take k ++ (a :: qs.drop (k+1))=qs:=by
  have h2:=List.drop_eq_getElem_cons hk
  rw [(List.getElem?_eq_some_iff.1 ha).2] at h2
  rw [← h2,List.take_append_drop]
 rw [← e] at h
 exact (Picks.append h).2.1
theorem okM_mark {p a:Nat} {U:List Bool} (h:okM (p:Int) U) (hU:U.length=512) (ha:a+1≤p):okM (p:Int) (markN U a true 1):=by
 obtain ⟨h1,h2,h3⟩:=h
 have hp:p≤512:=by omega
 refine ⟨h1,h2,fun j hj=>?_⟩
 have:=h3 j hj
 unfold okAt at this ⊢
 rw [getD_markN U a true j 1 (by omega)]
 by_cases hja:a≤j∧j<a+1
 ·rw [if_pos hja]
  have:¬ ((p:Int)≤(j:Int)):=by omega
  simp [this]
 ·rw [if_neg hja]
  exact this
theorem okM_marks {p:Nat} {V:List Bool}:∀ {qs:List Nat} {U:List Bool},Picks p V U qs→okM (p:Int) U→U.length=512→okM (p:Int) (marks U qs)
 | [],_,_,h,_=>h
 | a :: qs,U,hp,h,hU=>by
   rw [marks_cons]
   exact okM_marks hp.2 (okM_mark h hU hp.1.1.1) (by rw [length_markN];exact hU)
theorem take_snoc {α:Type} {l:List α} {k:Nat} {x:α} (h:l[k]?=some x):l.take (k+1)=l.take k ++ [x]:=by
 rw [List.take_add_one,h]
 rfl
def leastK (n:NodeD):KeyD:=if n.leaf=true then (n.es.head?.map EntD.key).getD ⟨0,0⟩ else n.ks.head?.getD ⟨0,0⟩
theorem leastK_has {n:NodeD} (h:1≤n.size) (hk:n.leaf=false→n.ks.length=n.ds.length):if n.leaf=true then ∃ e,n.es[0]?=some e∧leastK n=e.key else n.ks[0]?=some (leastK n):=by
 unfold leastK
 unfold NodeD.size at h
 by_cases hl:n.leaf=true
 ·rw [if_pos hl,if_pos hl]
  rw [if_pos hl] at h
  cases he:n.es with
  | nil=>rw [he] at h;simp at h
  | cons e t=>exact ⟨e,rfl,rfl⟩
 ·rw [if_neg hl,if_neg hl]
  rw [if_neg hl] at h
  have h2:=hk (by simpa using hl)
  cases he:n.ks with
  | nil=>rw [he] at h2;simp at h2;omega
  | cons e t=>rfl
theorem typed_keptF {w w':World} {base sz n g:Nat} {E T:TypeId} {v:Value} {us:List Value} {cs:Array Value} {fr:Nat × Nat} (h:w.ownsRow base E sz v n us) (hg:w.grownBy w' v.ownBlock) (hT:T≠E) (h0:w.heap[g]?=some (.cells cs T fr)):w'.heap[g]?=w.heap[g]? :=
 hg.block g (Array.getElem?_eq_some_iff.1 h0).1 (fun e=>by
  rcases h.2 with ⟨rfl,_⟩ | ⟨q,cap,cur,rfl,hb,hq,_⟩
  ·simp [Value.ownBlock] at e
  ·obtain rfl:g=q:=by simpa [Value.ownBlock] using e
   rw [hq] at h0
   cases h0
   exact hT rfl)
theorem cellsAt_new (W:World) (us:List Value) (T:TypeId):CellsAt (W.alloc (.cells us.toArray T)) (some ⟨W.heap.size,0,none⟩) us:=fun _=>⟨_,0,rfl,fun j hj=>by
 rw [Nat.zero_add]
 exact nd_cell (heap_alloc_new W _) j _ (by simp [hj])⟩
structure KeptNot (E:TypeId) (w w1:World):Prop where
 os:w1.os=w.os
 tape:w1.tape=w.tape
 output:w1.output=w.output
 size:w.heap.size≤w1.heap.size
 kept:∀ (k:Nat) (cs:Array Value) (T:TypeId) (fr:Nat × Nat),w.heap[k]?=some (Obj.cells cs T fr)→T≠E→w1.heap[k]?=w.heap[k]?
theorem KeptNot.of_row {w w1:World} {base sz n:Nat} {E:TypeId} {v:Value} {us:List Value} (h:w.ownsRow base E sz v n us) (hg:w.grownBy w1 v.ownBlock):KeptNot E w w1:=⟨hg.os,hg.tape,hg.output,hg.size,fun k cs T fr hk hT=>typed_keptF h hg hT hk⟩
theorem KeptNot.of_cell {w:World} {g i:Nat} {E:TypeId} {cs:Array Value} {fr:Nat × Nat} (h:w.heap[g]?=some (.cells cs E fr)) (u:Value):KeptNot E w (w.setCell ⟨g,i,none⟩ u):=by
 have h1:=grown_setC (World.grownBy.refl w (some g)) i u
 exact ⟨h1.os,h1.tape,h1.output,h1.size,fun k cs' T fr' hk hT=>h1.block k (Array.getElem?_eq_some_iff.1 hk).1 (fun e=>by cases e;rw [hk] at h;cases h;exact hT rfl)⟩
theorem KeptNot.of_setRow {w:World} {g:Nat} {E:TypeId} {cs:Array Value} {fr:Nat × Nat} (h:w.heap[g]?=some (.cells cs E fr)) (C:Array Value):KeptNot E w (w.setRow g C) :=
 ⟨rfl,rfl,rfl,by simp,fun k cs' T fr' hk hT=>setRow_other _ _ _ _ (fun e=>by subst e;rw [hk] at h;cases h;exact hT rfl)⟩
theorem HasTy.of_row {w:World} {base sz n c:Nat} {E:TypeId} {A:Option Addr} {us:List Value} (h:w.ownsRow base E sz (.slice A n c) n us) (hn:n≠0):HasTy w A E:=by
 rcases h.2 with ⟨_,h0⟩ | ⟨g,cap,cur,hv,_,hg,_⟩
 ·exact absurd h0 hn
 ·cases hv
  exact ⟨g,0,cur,_,rfl,hg⟩
theorem KeptNot.of_below {w w1:World} {E:TypeId} (h:Below w.heap.size w w1):KeptNot E w w1:=⟨h.os,h.tape,h.output,h.size,fun k cs T fr hk _=>h.block k (Array.getElem?_eq_some_iff.1 hk).1⟩
theorem KeptNot.trans {w w1 w2:World} {E:TypeId} (h:KeptNot E w w1) (k:KeptNot E w1 w2):KeptNot E w w2 :=
 ⟨k.os.trans h.os,k.tape.trans h.tape,k.output.trans h.output,Nat.le_trans h.size k.size,fun i cs T fr hi hT=>by
  have h1:=h.kept i cs T fr hi hT
  exact (k.kept i cs T fr (h1.trans hi) hT).trans h1⟩
theorem KeptNot.heap {w w1:World} {E:TypeId} (h:KeptNot E w w1) {k:Nat} {cs:Array Value} {T:TypeId} {fr:Nat × Nat} (hk:w.heap[k]?=some (Obj.cells cs T fr)) (hT:T≠E):w1.heap[k]?=some (Obj.cells cs T fr):=(h.kept k cs T fr hk hT).trans hk
theorem KeptNot.row {w w1:World} {E E':TypeId} (h:KeptNot E w w1) {base sz n:Nat} {v:Value} {us:List Value} (R:w.ownsRow base E' sz v n us) (hne:E'≠E):w1.ownsRow base E' sz v n us:=row_keep R (fun k cur _ hc=>h.kept k cur _ _ hc hne)
theorem KeptNot.chg {w w1:World} {E:TypeId} (h:KeptNot E w w1) {gc gv p B0:Nat} {U V:List Bool} {lv:Value} {L:List (Nat × (NodeD × NdL))} (C:ChgS w gc gv p B0 U V lv L) (h1:114≠E) (h2:151≠E):ChgS w1 gc gv p B0 U V lv L :=
 ⟨C.chg.keep (h.kept _ _ _ _ C.chg h1),h.row C.row h2,C.B0⟩
theorem KeptNot.node {w w1:World} {E:TypeId} (h:KeptNot E w w1) {n:NodeD} {l:NdL} (N:NodeT w n l) (h1:40≠E) (h2:38≠E) (h3:3≠E):NodeT w1 n l :=
 N.keep (fun b cs T fr hb hT=>h.kept b cs T fr hb (by rcases hT with rfl | rfl | rfl <;> assumption))
end Go.Proofs.YtgkddhncfaeidaaGreat
