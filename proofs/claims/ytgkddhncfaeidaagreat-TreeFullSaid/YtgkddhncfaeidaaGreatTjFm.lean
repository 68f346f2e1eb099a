/- Squeezed: the texts as they are written lie in wip/tpl. -/
import Derived.Test.YtgkddhncfaeidaaGreatPart29
import Derived.Test.YtgkddhncfaeidaaGreatPart23
set_option linter.unusedSimpArgs false
set_option linter.unusedVariables false
namespace Go.Proofs.YtgkddhncfaeidaaGreat
set_option linter.unnecessarySimpa false
open Go.ChangeShapes Go.WideShapes Go.ChangeAt Go.RowKit CrcM PageM
theorem row_hasTy {w:World} {base sz n c:Nat} {E:TypeId} {A:Option Addr} {us:List Value} (h:w.ownsRow base E sz (.slice A n c) n us) (hn:n≠0):HasTy w A E:=HasTy.of_row h hn
theorem OwnN.t {w:World} {base:Nat} {n:NodeD} {l:NdL} (h:OwnN w base n l):NodeT w n l where
 at_:=h.at
 te:=fun hne=>row_hasTy h.1 (fun e=>hne (List.eq_nil_of_length_eq_zero e))
 tk:=fun hne=>row_hasTy h.2.1 (fun e=>hne (List.eq_nil_of_length_eq_zero e))
 td:=fun hne=>row_hasTy h.2.2 (fun e=>hne (List.eq_nil_of_length_eq_zero e))
theorem OwnN.keepT {w w':World} {base:Nat} {n:NodeD} {l:NdL} (h:OwnN w base n l) (hk:∀ (b:Nat) (cs:Array Value) (T:TypeId) (fr:Nat × Nat),w.heap[b]?=some (Obj.cells cs T fr)→(l.EA.map (·.block)=some b∨l.KA.map (·.block)=some b∨l.DA.map (·.block)=some b)→T=40∨T=38∨T=3→w'.heap[b]?=w.heap[b]?):OwnN w' base n l:=by
 have q:∀ {E:TypeId} {sz m c:Nat} {A:Option Addr} {us:List Value},w.ownsRow base E sz (.slice A m c) m us→(∀ b cs fr,A.map (·.block)=some b→w.heap[b]?=some (Obj.cells cs E fr)→w'.heap[b]?=w.heap[b]?)→w'.ownsRow base E sz (.slice A m c) m us:=by
  intro E sz m c A us hr hb
  rcases hr.2 with h0 | ⟨g,cap,cur,hv,h1,h2,h3⟩
  ·exact ⟨hr.1,.inl h0⟩
  ·refine ⟨hr.1,.inr ⟨g,cap,cur,hv,h1,(hb g cur _ ?_ h2).trans h2,h3⟩⟩
   injection hv with hA _ _
   rw [hA]
   rfl
 exact ⟨q h.1 (fun b cs fr hA hb=>hk b cs _ fr hb (.inl hA) (.inl rfl)),q h.2.1 (fun b cs fr hA hb=>hk b cs _ fr hb (.inr (.inl hA)) (.inr (.inl rfl))),q h.2.2 (fun b cs fr hA hb=>hk b cs _ fr hb (.inr (.inr hA)) (.inr (.inr rfl)))⟩
theorem OwnN.offgc {w w':World} {base gc gv:Nat} {p:Int} {U V:List Bool} {lv:Value} {n:NodeD} {l:NdL} (h:OwnN w base n l) (hc:ChgAt w gc gv p U V lv) (ho:OuterX (fun k=>k=gc) w w'):OwnN w' base n l :=
 h.keepT fun b cs T fr hb _ hT=>ho.block b (Array.getElem?_eq_some_iff.1 hb).1 (fun e=>row_ne_typed hc e hb (by rcases hT with rfl | rfl | rfl <;> decide))
theorem ViewAt.offgc {w w':World} {gc gv gv' g gen:Nat} {p p':Int} {U V U' V':List Bool} {lv:Value} (h:ViewAt w gv' g gen p' U' V') (hc:ChgAt w gc gv p U V lv) (ho:OuterX (fun k=>k=gc) w w'):ViewAt w' gv' g gen p' U' V' :=
 h.keep (ho.block gv' h.lt (fun e=>row_ne_typed hc e h (by decide)))
theorem Dk.keepTy {w w':World} {B N g gs gn L cs cn:Nat} {rw:Value} {st nw:List UInt8} {ws:List (Nat × List UInt8)} {on:Bool} {left:Int} (h:Dk w B N g gs gn rw L cs cn st nw ws on left) (hs:w.heap.size≤w'.heap.size) (hk:∀ (b:Nat) (cs:Array Value) (T:TypeId) (fr:Nat × Nat),w.heap[b]?=some (Obj.cells cs T fr)→T=145∨T=5∨T=251→w'.heap[b]?=w.heap[b]?):Dk w' B N g gs gn rw L cs cn st nw ws on left:=by
 obtain ⟨curN,hcN⟩:=h.tyN
 obtain ⟨_,_,_,curS,hcS,_⟩:=h.stay.parts
 exact h.keepX hs (hk _ _ _ _ h.head (.inl rfl)) (hk _ _ _ _ hcS (.inr (.inl rfl))) (hk _ _ _ _ hcN (.inr (.inl rfl))) (fun k e=>by
  rcases h.wait.2 with ⟨e0,_⟩ | ⟨q,cap,cur,hv,_,hq,_⟩
  ·rw [e0] at e
   simp [Value.ownBlock] at e
  ·rw [hv] at e
   obtain rfl:q=k:=by simpa [Value.ownBlock] using e
   exact hk _ _ _ _ hq (.inr (.inr rfl)))
theorem Dk.offgc {w w':World} {gc gv:Nat} {p:Int} {U V:List Bool} {lv:Value} {B N g gs gn L cs cn:Nat} {rw:Value} {st nw:List UInt8} {ws:List (Nat × List UInt8)} {on:Bool} {left:Int} (h:Dk w B N g gs gn rw L cs cn st nw ws on left) (hc:ChgAt w gc gv p U V lv) (ho:OuterX (fun k=>k=gc) w w'):Dk w' B N g gs gn rw L cs cn st nw ws on left :=
 h.keepTy ho.size fun b cs T fr hb hT=>ho.block b (Array.getElem?_eq_some_iff.1 hb).1 (fun e=>row_ne_typed hc e hb (by rcases hT with rfl | rfl | rfl <;> decide))
theorem row_off {w w':World} {gc gv:Nat} {p:Int} {U V:List Bool} {lv:Value} {b:Nat} {cs:Array Value} {T:TypeId} {fr:Nat × Nat} (h:w.heap[b]?=some (.cells cs T fr)) (hT:T≠114) (hc:ChgAt w gc gv p U V lv) (ho:OuterX (fun k=>k=gc) w w'):w'.heap[b]?=some (.cells cs T fr) :=
 (ho.block b (Array.getElem?_eq_some_iff.1 h).1 (fun e=>row_ne_typed hc e h hT)).trans h
theorem outX_trans {X:Nat→Prop} {w w1 w2:World} (h:OuterX X w w1) (h2:OuterX X w1 w2):OuterX X w w2 :=
 ⟨h2.os.trans h.os,h2.tape.trans h.tape,h2.output.trans h.output,Nat.le_trans h.size h2.size,fun k hk hX=>(h2.block k (Nat.lt_of_lt_of_le hk h.size) hX).trans (h.block k hk hX)⟩
theorem join_own (a b:NodeD) (la lb:NdL) (w:World) (hA:NodeAt w a la) (hB:NodeAt w b lb) (fE:a.es.length+b.es.length≤1000000000) (fK:a.ks.length+b.ks.length≤1000000000) (fD:a.ds.length+b.ds.length≤1000000000) :
 Calls Tryz.prog 127 #[.agg #[.bool a.leaf,.slice la.EA a.es.length la.ec,.slice la.KA a.ks.length la.kc,.slice la.DA a.ds.length la.dc],.agg #[.bool b.leaf,.slice lb.EA b.es.length lb.ec,.slice lb.KA b.ks.length lb.kc,.slice lb.DA b.ds.length lb.dc]] w fun e w'=>(∃ lj:NdL,e=.returned (.agg #[.bool (joinD a b).leaf,.slice lj.EA (joinD a b).es.length lj.ec,.slice lj.KA (joinD a b).ks.length lj.kc,.slice lj.DA (joinD a b).ds.length lj.dc])∧OwnN w' w.heap.size (joinD a b) lj)∧Below w.heap.size w w':=by
 obtain ⟨lfa,es,ks,ds⟩:=a
 obtain ⟨lfb,es2,ks2,ds2⟩:=b
 dsimp only at fE fK fD
 cases lfa
 ·refine (join_inner lfb la.EA la.KA la.DA lb.EA lb.KA lb.DA es.length la.ec ks.length la.kc ds.length la.dc es2.length lb.ec ks2.length lb.kc ds2.length lb.dc (ks ++ ks2).length (ds ++ ds2).length (by simp) (by simp) (ks.flatMap kyC) (ks2.flatMap kyC) (ds.map kdC) (ds2.map kdC) (flatV_len lenKyC _) (flatV_len lenKyC _) (by simp) (by simp) (flat_one kyC_one _) (flat_one kyC_one _) (kdC_one _) (kdC_one _) (by simp;omega) (by simp;omega) w hA.k.cells hB.k.cells hA.d.cells hB.d.cells).mono ?_
  rintro e w' ⟨⟨K,kc,D,dc,rfl,hk,hd⟩,hb⟩
  refine ⟨⟨⟨none,0,K,kc,D,dc⟩,rfl,?_⟩,hb⟩
  rw [← List.flatMap_append] at hk
  rw [← List.map_append] at hd
  exact ⟨World.ownsRow_nil _ _ _ _,hk,hd⟩
 ·refine (join_leaf lfb la.EA la.KA la.DA lb.EA lb.KA lb.DA es.length la.ec ks.length la.kc ds.length la.dc es2.length lb.ec ks2.length lb.kc ds2.length lb.dc (es ++ es2).length (by simp) (es.flatMap enC) (es2.flatMap enC) (flatV_len lenEnC _) (flatV_len lenEnC _) (flat_one enC_one _) (flat_one enC_one _) (by simp;omega) w hA.e.cells hB.e.cells).mono ?_
  rintro e w' ⟨⟨A,c,rfl,hk⟩,hb⟩
  refine ⟨⟨⟨A,c,none,0,none,0⟩,rfl,?_⟩,hb⟩
  rw [← List.flatMap_append] at hk
  exact ⟨hk,World.ownsRow_nil _ _ _ _,World.ownsRow_nil _ _ _ _⟩
end Go.Proofs.YtgkddhncfaeidaaGreat
