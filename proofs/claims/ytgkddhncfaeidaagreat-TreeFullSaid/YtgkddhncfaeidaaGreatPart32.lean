/- Squeezed: the texts as they are written lie in wip/tpl. -/
import Derived.Test.YtgkddhncfaeidaaGreatPart31
import Derived.RangeFuncNested
import Derived.RangeFuncBound
import Derived.RangeFuncCalls
import Derived.RangeFuncLeaves
import Derived.RangeFuncBox
import Derived.Shelf.Abstract
import Derived.Test.YtgkddhncfaeidaaGreatPart00
import Derived.Test.YtgkddhncfaeidaaGreatPart03
import Derived.Test.YtgkddhncfaeidaaGreatTjWi
set_option maxRecDepth 100000
set_option maxHeartbeats 4000000
set_option linter.unusedSimpArgs false
set_option linter.unusedVariables false
namespace Go.Proofs.YtgkddhncfaeidaaGreat
open Go.RowKit Go.ChangeShapes Go.WideShapes Go.ChangeAt CrcM PageM
theorem SplitOf.pair {n:NodeD} {ps:List NodeD} (h:SplitOf n ps) (h1:capN n.leaf<n.size) (h2:n.size≤2*capN n.leaf):∃ a b,ps=[a,b]:=by
 have h3:=h.two h2
 match ps,h,h3 with
 | [],h,_ =>
   have e1:=h.es
   have e2:=h.ds
   simp only [List.flatMap_nil] at e1 e2
   have h0:n.size=0:=by
    unfold NodeD.size
    split
    ·rw [← e1];rfl
    ·rw [← e2];rfl
   omega
 | [a],h,_ =>
   have e1:=h.es
   have e2:=h.ds
   simp only [List.flatMap_cons,List.flatMap_nil,List.append_nil] at e1 e2
   obtain ⟨k1,_,_,k4⟩:=h.kind a (List.mem_singleton.2 rfl)
   have h0:n.size=a.size:=by
    unfold NodeD.size
    rw [k1,e1,e2]
   omega
 | [a,b],_,_=>exact ⟨a,b,rfl⟩
 | a :: b :: c :: t,_,h3=>simp at h3
theorem top_grow (gc gv p B0 h m z:Nat) (U V:List Bool) (lv:Value) (L:List (Nat × (NodeD × NdL))) (rd:Nat→NodeD→Prop) (hfun:∀ a m m',rd a m→rd a m'→m=m') (hrv:∀ a m,rd a m→2≤a∧a<p∧V.getD a false=true) (E:List EntD) (n:NodeD) (hV:V.length=512) (okV:okM (p:Int) V) (hz1:z≤1) (hz3:z=0∨h≤3) (hf:FitU p V U (1+(2*z+m)) (L.map Prod.fst)) (hLL:L.length≤900)
 (ht:TrO (rdL rd L) h n E) (hn:n.size≤capN n.leaf+z) (h4:h≤4) (hE:GoodE E) (hgood:∀ x ∈ L,okNode x.2.1∧inNode x.2.1) (w:World) (hc:ChgS w gc gv p B0 U V lv L) (hL:∀ x ∈ L,OwnN w B0 x.2.1 x.2.2) (hB0:B0≤w.heap.size) (A:Option Addr) (c:Nat) (ps:List (NodeD × NdL)) (W:World) (hW:Below w.heap.size w W) (hsp:SplitOf n (ps.map Prod.fst)) (hrow:W.ownsRow w.heap.size 86 4 (.slice A ps.length c) ps.length (ps.flatMap ndP)) (how:∀ x ∈ ps,OwnN W w.heap.size x.1 x.2) :
 Calls Tryz.prog 30 #[.pointer (some ⟨gc,0,none⟩),.slice A ps.length c,.int .i64 ((h:Int)+1)] W fun e w'=>∃ (a hh:Nat) (L':List (Nat × (NodeD × NdL))) (U':List Bool) (lv':Value),e=.returned (.tuple #[.agg #[.int .i64 (a:Int),.int .i64 (hh:Int)],.int .i64 0])∧ToR W w' gc gv p B0 m V rd E a hh (L.length+1+2*z) L' U' lv' (TopS n h L U):=by
 by_cases hs:n.size≤capN n.leaf
 ·refine (top_split gc gv p B0 h (2*z+m) U V lv L rd hfun hrv E n hV okV hf hLL ht hs h4 hE hgood w hc hL hB0 A c ps W hW hsp hrow how).mono ?_
  rintro e w' ⟨a,hh,L',U',lv',rfl,hr⟩
  exact ⟨a,hh,L',U',lv',rfl,{ hr with fit:=hr.fit.less (by omega),cnt:=by have:=hr.cnt;omega }⟩
 ·have hz:z=1:=by omega
  subst hz
  have h3:h≤3:=by omega
  have hc1:1≤capN n.leaf:=by cases n.leaf <;> decide
  have hp5:p≤512:=by have:=okV.2.1;omega
  obtain ⟨x,y,hxy⟩:=hsp.pair (by omega) (by omega)
  obtain ⟨⟨x,lx⟩,⟨y,ly⟩,rfl⟩:∃ u v,ps=[u,v]:=by
   match ps,hxy with
   | [u,v],_=>exact ⟨u,v,rfl⟩
  obtain ⟨rfl,rfl⟩:x=_∧y=_:=by simpa using hxy
  have hxy':[x,y]=([(x,lx),(y,ly)]:List (NodeD × NdL)).map Prod.fst:=rfl
  rw [← hxy'] at hsp
  obtain ⟨qs,z1,z2,z3⟩:=(hf.less (k:=3+m) (by omega)).picks
  obtain ⟨q1,q2,q3,rfl⟩:∃ a b c,qs=[a,b,c]:=by
   match qs,z1 with
   | [a,b,c],_=>exact ⟨a,b,c,rfl⟩
  obtain ⟨pe,e1,e2,e3⟩:=ht.split hsp
  obtain ⟨Ex,Ey,rfl⟩:∃ Ex Ey,pe=[(x,Ex),(y,Ey)]:=by
   match pe,e1 with
   | [(a,A),(b,B)],e1 =>
     simp at e1
     obtain ⟨rfl,rfl⟩:=e1
     exact ⟨A,B,rfl⟩
  obtain ⟨tx,sx⟩:=e2 (x,Ex) (by simp)
  obtain ⟨ty,sy⟩:=e2 (y,Ey) (by simp)
  dsimp only at tx sx ty sy
  simp only [List.flatMap_cons,List.flatMap_nil,List.append_nil] at e3
  obtain ⟨n',hn'⟩:∃ n':NodeD,n'=⟨false,[],[leastK x,leastK y],[kidI q1,kidI q2]⟩:=⟨_,rfl⟩
  have htop:Tops [x,y] (h+1) (([q1,q2]:List Nat).zip [x,y] ++ []) n' (h+1+1):=Tops.step _ _ _ _ _ _ (by simp) rfl (by omega) (by rw [hn'];have hlv:lvl [x,y] [q1,q2]=[⟨false,[],[leastK x,leastK y],[kidI q1,kidI q2]⟩]:=(by have hch:chs 16 2 1=[(0,2)]:=(by decide);unfold lvl;rw [show ([q1,q2]:List Nat).length=2 from rfl,show (2+15) / 16=1 from rfl,hch];rfl);rw [hlv];exact Tops.stop _ _)
  obtain ⟨kx1,kx2,kx3,kx4⟩:=hsp.kind x (by simp)
  obtain ⟨ky1,ky2,ky3,ky4⟩:=hsp.kind y (by simp)
  have hty:=top_yes gc gv p B0 U V lv L hf.len hV hf.ok okV [(x,lx),(y,ly)] A c (h+1) _ n' (h+1+1) q3 htop (by rw [hn'];intro _;simp) z2 (by simp;omega) (by omega) W (hc.below hW) (fun u hu=>((hL u hu).below hW).t) (ChAt.of_row hrow) (fun u hu=>by
   have hu':u=(x,lx)∨u=(y,ly):=by simpa using hu
   refine ⟨(how u hu).t,?_,?_⟩
   ·rcases hu' with rfl | rfl
    ·exact kx3
    ·exact ky3
   ·intro hl
    rcases hu' with rfl | rfl
    ·unfold cleanN at kx2
     rw [if_neg (by dsimp only at hl;simp [hl])] at kx2
     exact kx2.2
    ·unfold cleanN at ky2
     rw [if_neg (by dsimp only at hl;simp [hl])] at ky2
     exact ky2.2)
  have ecast:((h:Int)+1)=((h+1:Nat):Int):=by omega
  rw [ecast]
  refine hty.mono ?_
  rintro e w' ⟨rfl,⟨lv',Lx,c1,c2,c3⟩,ho⟩
  obtain ⟨l1,l2,l3,rfl⟩:∃ l1 l2 l3,Lx=[(q1,(x,l1)),(q2,(y,l2)),(q3,(n',l3))]:=by
   match Lx,c2 with
   | [(a1,(b1,d1)),(a2,(b2,d2)),(a3,(b3,d3))],c2 =>
     simp [strip] at c2
     obtain ⟨⟨rfl,rfl⟩,⟨rfl,rfl⟩,rfl,rfl⟩:=c2
     exact ⟨d1,d2,d3,rfl⟩
  obtain ⟨L',hL'⟩:∃ L',L'=L ++ [(q1,(x,l1)),(q2,(y,l2)),(q3,(n',l3))]:=⟨_,rfl⟩
  rw [← hL'] at c1 c3
  have hfit:FitU p V (marks U [q1,q2,q3]) m (L'.map Prod.fst):=by
   rw [hL',List.map_append]
   exact z3
  have hmem:∀ u,u ∈ [(q1,(x,l1)),(q2,(y,l2)),(q3,(n',l3))]→u ∈ L':=fun u hu=>by rw [hL'];exact List.mem_append_right _ hu
  have hup:∀ a m,rdL rd L a m→rdL rd L' a m:=fun a m hm=>by rw [hL'];exact rdL_more (.inl hm)
  have tre':Tre (rdL rd L') (h+1) n' E:=by
   rw [hn']
   refine ⟨rfl,rfl,[(q1,(x,Ex)),(q2,(y,Ey))],rfl,rfl,fun u hu=>?_,?_,by simp⟩
   ·have hu':u=(q1,(x,Ex))∨u=(q2,(y,Ey)):=by simpa using hu
    rcases hu' with rfl | rfl
    ·exact ⟨.inr ⟨l1,hmem _ (by simp)⟩,Tre.mono hup tx,sx⟩
    ·exact ⟨.inr ⟨l2,hmem _ (by simp)⟩,Tre.mono hup ty,sy⟩
   ·simp [e3]
  have hfu:=rdL_fun (L:=L') hfun (fun a m h=>(hrv a m h).2.2) hfit.laid.1 (fun a ha=>(hfit.laid.2 a ha).2.2.2)
  have hpg:∀ a m,rdL rd L' a m→2≤a∧a<512:=fun a m h=>by
   rcases h with h | ⟨l,h⟩
   ·have:=hrv a m h
    omega
   ·have:=hfit.laid.2 a (List.mem_map_of_mem h)
    omega
  have gx:=ok_tre hfu hpg (Tre.mono hup tx) (hE.sub (by rw [← e3];exact List.sublist_append_left _ _)) kx3 (by rw [kx1];exact kx4)
  have gy:=ok_tre hfu hpg (Tre.mono hup ty) (hE.sub (by rw [← e3];exact List.sublist_append_right _ _)) ky3 (by rw [ky1];exact ky4)
  have gn:=ok_tre hfu hpg tre' hE (by rw [hn'];show 1≤2;omega) (by rw [hn'];show 2≤16;omega)
  refine ⟨q3,h+1+1,L',marks U [q1,q2,q3],lv',rfl,{ chg:=c1,fit:=hfit,lay:=c3,good:=fun u hu=>?_,out:=OutS.of_outT ho,tree:=.inr ⟨h+1,n',rfl,by omega,tre',.inr ⟨l3,hmem _ (by simp)⟩,?_⟩,cnt:=?_,same:=⟨fun _ _ h9=>absurd h9 hs,fun _=>⟨x,y,q1,q2,l1,l2,l3,hsp,rfl,rfl,by rw [hL',hn']⟩⟩ }⟩
  ·rw [hL'] at hu
   rcases List.mem_append.1 hu with hu | hu
   ·exact hgood u hu
   ·have hu':u=(q1,(x,l1))∨u=(q2,(y,l2))∨u=(q3,(n',l3)):=by simpa using hu
    rcases hu' with rfl | rfl | rfl
    ·exact gx
    ·exact gy
    ·exact gn
  ·rw [← e3,List.length_append]
   omega
  ·rw [hL',List.length_append]
   simp
end Go.Proofs.YtgkddhncfaeidaaGreat
namespace Go.Proofs.YtgkddhncfaeidaaGreat
open Go.RowKit
def rdPost {α:Type} (B:Nat) (Kp:World→World→Prop) (I:List α→World→Prop) (Ix:Code→List α→World→Prop) (xs:List α) (W:World):Exit→Act→World→Prop
 | .normal,_,W'=>KeepsFrom B W W'∧Kp W W'∧I xs W'
 | .ret,_,W'=>KeepsFrom B W W'∧Kp W W'∧Ix .ret xs W'
 | .exit id,_,W'=>KeepsFrom B W W'∧Kp W W'∧Ix (.exit id) xs W'
 | .goto t,_,W'=>KeepsFrom B W W'∧Kp W W'∧Ix (.goto t) xs W'
 | _,_,_=>False
def SeqX {α:Type} (F:Fence) (n:Nat) (P:Program) (g:Nat) (lb:Array Value) (encs:α→Array Value) (T Kp:World→World→Prop) (Ok:World→Prop) (Cc:World→World→Prop) (St:World→Prop) (S Sp:List α→World→Prop) (N:Nat) (Nx:List α→α→Prop):Prop :=
 ∀ (l:Nat) (J Jx:List α→World→Prop) (W:World),St W→(∀ s A B,J s A→T A B→J s B)→(∀ s A,J s A→Ok A)→(∀ s A B,J s A→T A B→Cc A B) →
   (∀ pre x W1,J pre W1→pre.length<N→Nx pre x→YieldAt F (n - 1) P l (encs x) W1 fun e W'=>(e=.returned (.bool true)∧J (pre ++ [x]) W'∧Kp W1 W')∨(e=.returned (.bool false)∧Jx (pre ++ [x]) W'∧Kp W1 W'))→J [] W →
   CallsIn F n P g (#[.func (.yield l) #[] #[]] ++ lb) W fun e W'=>(∃ v,e=.returned v)∧((∃ xs,S xs W'∧J xs W')∨(∃ pre,Sp pre W'∧Jx pre W'))
theorem wpIn_rangeFunc_X {F:Fence} {n:Nat} {P:Program} {w:World} {α:Type} {g:Operand} {ps:Array Tmp} {assign body:Code} {Q:Exit→Act→World→Prop} {a:Act}
 (hro:F.round=none) (h1:1≤n) {gf:Nat} {lb:Array Value} (hg:a.eval g=.func (.func gf) #[] lb) (hFg:F.fn gf) (eg:∀ args w,(callFunc gf args).run P w=.ok (.enter gf args) w)
 {encs:α→Array Value} {T Kp:World→World→Prop} {Ok:World→Prop} {Cc:World→World→Prop} {St:World→Prop} {S Sp:List α→World→Prop} {N:Nat} {Nx:List α→α→Prop} (hseq:SeqX F (n - 1) P gf lb encs T Kp Ok Cc St S Sp N Nx)
 (hT:∀ (A B:World) (l:Nat) (o:Obj),w.heap.size≤l→A.heap[l]?=some o→o.isCells=false→T A B→B.heap[l]?=some o)
 (hKt:∀ {A B C:World},Kp A B→Kp B C→Kp A C) (hKb:∀ (W:World) (l:Nat) (o o':Obj),w.heap.size≤l→W.heap[l]?=some o→o.isCells=false→Kp W (W.putObj l o')) (hps:∀ x,(encs x).size=ps.size)
 (hSt:∀ W1,Below w.heap.size w W1→W1.heap.size=w.heap.size+2→St W1)
 (hS:∀ xs,OwnFrom w.heap.size (fun (_:Unit) W=>S xs W)) (hSp:∀ xs,OwnFrom w.heap.size (fun (_:Unit) W=>Sp xs W))
 (I:List α→World→Prop) (Ix:Code→List α→World→Prop) (hI:OwnFrom w.heap.size I) (hIx:∀ c,OwnFrom w.heap.size (Ix c)) (hIT:∀ s A B,I s A→T A B→I s B) (hIO:∀ s A,I s A→Ok A) (hIC:∀ s A B,I s A→T A B→Cc A B) (h0:I [] w) (Ax:α→Act→World→Prop) (hAx:∀ x a',OwnFrom w.heap.size (fun (_:Unit) W=>Ax x a' W))
 (hassign:∀ (l:Nat) (pre:List α) (x:α) (W:World) (K:Act→World→Prop),I pre W→pre.length<N→Nx pre x→(∀ a' W',KeepsFrom w.heap.size W W'→Kp W W'→I pre W'→Ax x a' W'→K a' W') →
  assign.wpIn (F.inRound l) (n - 1 - 1) P (Exit.then K (fun _ _ _=>False)) { tmps:=(ps.zip (encs x)).foldl (fun t (p,v)=>t.setIfInBounds p v) a.tmps,defers:=[] } W)
 (hbody:∀ (l:Nat) (pre:List α) (x:α) (a':Act) (W:World),w.heap.size≤l→(∃ r,W.heap[l]?=some (.loop r))→I pre W→Ax x a' W→pre.length<N→Nx pre x→body.wpIn (F.inRound l) (n - 1 - 1) P (rdPost w.heap.size Kp I Ix (pre ++ [x]) W) a' W)
 (hdone:∀ (D:Nat) (xs:List α) (W:World),w.heap.size≤D→S xs W→I xs W→W.heap[D]?=some (.deferred (some []))→Q .normal { a with defers:={ target:=.collected D,args:=#[] } :: a.defers } W)
 (hstop:∀ (D:Nat) (c:Code) (pre:List α) (W:World),w.heap.size≤D→Sp pre W→Ix c pre W→W.heap[D]?=some (.deferred (some []))→c.wpIn F n P Q { a with defers:={ target:=.collected D,args:=#[] } :: a.defers } W) :
 (Code.rangeFunc g ps assign body).wpIn F n P Q a w:=by
 refine wpIn_rangeFunc ?_
 intro fn hfn
 rw [hro]
 obtain ⟨rec,hrec⟩:∃ rec:LoopState→Option Code→Loop,rec=fun st pe=>{ state:=st,pending:=pe,fn,tmps:=a.tmps,params:=ps,assign,body,defers:=w.heap.size }:=⟨_,rfl⟩
 obtain ⟨W1,hW1⟩:∃ W1,(w.alloc (.deferred (some []))).alloc (.loop (rec .ready none))=W1:=⟨_,rfl⟩
 have hL1:W1.heap[w.heap.size+1]?=some (.loop (rec .ready none)):=by
  rw [← hW1];have:=World.alloc_heap_new (w.alloc (.deferred (some []))) (.loop (rec .ready none));rwa [World.size_alloc] at this
 have hK1:W1.heap[w.heap.size]?=some (.deferred (some [])):=by
  rw [← hW1];exact (Below.heap_alloc _ _ _ (by simp)).trans (World.alloc_heap_new w _)
 have hI1:I [] W1:=by rw [← hW1];exact hI.alloc _ (hI.alloc _ h0)
 have hb1:Below w.heap.size w W1:=by rw [← hW1];exact ((Below.refl _ w).alloc (Nat.le_refl _) _).alloc (by simp) _
 have hz1:W1.heap.size=w.heap.size+2:=by rw [← hW1];simp
 refine ⟨w.heap.size+1,[{ target:=.collected w.heap.size,args:=#[] }],W1,{ target:=.fn (.func gf) lb,args:=#[.func (.yield (w.heap.size+1)) #[] #[]] },W1,gf,
  #[.func (.yield (w.heap.size+1)) #[] #[]] ++ lb,W1,?_,?_,?_,?_,fun _=>h1,?_⟩
 ·rw [← hW1,hrec];exact run_enterLoop_outer _ _ _ _ _
 ·simp only [resolve,hg]
  simp [go_sem]
 ·intro f' hf';simp [Target.leads] at hf';subst hf';exact hFg
 ·simp [invoke,go_sem,eg]
 ·refine (hseq (w.heap.size+1)
   (fun pre W=>I pre W∧W.heap[w.heap.size+1]?=some (.loop (rec .ready none))∧W.heap[w.heap.size]?=some (.deferred (some [])))
   (fun pre W=>∃ c,Ix c pre W∧W.heap[w.heap.size+1]?=some (.loop (rec .done (some c)))∧W.heap[w.heap.size]?=some (.deferred (some [])))
   W1 (hSt W1 hb1 hz1)
   (fun s A B hs hAB=>⟨hIT s A B hs.1 hAB,hT A B _ _ (by omega) hs.2.1 rfl hAB,hT A B _ _ (Nat.le_refl _) hs.2.2 rfl hAB⟩) (fun s A hs=>hIO s A hs.1) (fun s A B hs hAB=>hIC s A B hs.1 hAB)
   ?_ ⟨hI1,hL1,hK1⟩).mono ?_
  ·rintro pre x W ⟨hi,hl,hk⟩ hlen hnx
   have hlt:w.heap.size+1<W.heap.size:=(Array.getElem?_eq_some_iff.1 hl).1
   have hy:=run_yield (P:=P) (args:=encs x) hl (by rw [hrec];exact hps x)
   rw [hrec] at hy
   refine ⟨fn,_,assign,body,hy,roundIn_of_wpIn hfn (hassign _ pre x W _ hi hlen hnx ?_)⟩
   clear hy
   intro a' Wa hkfa hkpa hia hax
   replace hl:=hkfa.same _ _ (by omega) hl rfl
   replace hk:=hkfa.same _ _ (Nat.le_refl _) hk rfl
   have hlt2:w.heap.size+1<Wa.heap.size:=(Array.getElem?_eq_some_iff.1 hl).1
   refine ⟨_,run_beginRound hl (by rw [hrec]),?_⟩
   obtain ⟨Wb,hWb⟩:∃ Wb,Wb=Wa.putObj (w.heap.size+1) (.loop { rec .ready none with state:=.busy }):=⟨_,rfl⟩
   have hl2:Wb.heap[w.heap.size+1]?=some (.loop { rec .ready none with state:=.busy }):=by rw [hWb];exact World.putObj_heap_same hlt2
   have hk2:Wb.heap[w.heap.size]?=some (.deferred (some [])):=by rw [hWb];exact (World.putObj_heap_other (by omega)).trans hk
   have hw2:Kp W Wb:=hKt hkpa (by rw [hWb];exact hKb _ _ _ _ (by omega) hl rfl)
   have hi2:I pre Wb:=by rw [hWb];exact hI.putObj _ hia (by omega) hl rfl
   have ha2:Ax x a' Wb:=by rw [hWb];exact (hAx x a').putObj (s:=()) _ hax (by omega) hl rfl
   rw [← hWb]
   refine wpIn_mono (hbody _ pre x a' Wb (by omega) ⟨_,hl2⟩ hi2 ha2 hlen hnx) ?_
   have fin:∀ (jump:Option Code) (W3:World),KeepsFrom w.heap.size Wb W3→Kp Wb W3 →
    (Instr.endRound (w.heap.size+1) jump).run P W3=.ok (.bool jump.isNone) (W3.putObj (w.heap.size+1) (.loop (rec (if jump.isNone then .ready else .done) jump))) ∧
    (W3.putObj (w.heap.size+1) (.loop (rec (if jump.isNone then .ready else .done) jump))).heap[w.heap.size+1]?=some (.loop (rec (if jump.isNone then .ready else .done) jump)) ∧
    (W3.putObj (w.heap.size+1) (.loop (rec (if jump.isNone then .ready else .done) jump))).heap[w.heap.size]?=some (.deferred (some [])) ∧
    W3.heap[w.heap.size+1]?=some (.loop { rec .ready none with state:=.busy }) ∧
    Kp W (W3.putObj (w.heap.size+1) (.loop (rec (if jump.isNone then .ready else .done) jump))):=fun jump W3 hk3 hp3=>by
    have hl3:=hk3.same _ _ (by omega) hl2 rfl
    have hr:=run_endRound (P:=P) jump hl3
    rw [hrec] at hr ⊢
    refine ⟨hr,World.putObj_heap_same (Array.getElem?_eq_some_iff.1 hl3).1,(World.putObj_heap_other (by omega)).trans (hk3.same _ _ (Nat.le_refl _) hk2 rfl),by rw [hrec] at hl3;exact hl3,hKt hw2 (hKt hp3 (hKb _ _ _ _ (by omega) hl3 rfl))⟩
   rintro e a3 W3 hp
   cases e with
   | normal =>
     obtain ⟨hk3,hp3,hi3⟩:=hp
     obtain ⟨hr,hl4,hk4,hl3,hkk⟩:=fin none W3 hk3 hp3
     exact ⟨_,_,hr,.inl ⟨rfl,⟨hI.putObj _ hi3 (by omega) hl3 rfl,hl4,hk4⟩,hkk⟩⟩
   | ret =>
     obtain ⟨hk3,hp3,hi3⟩:=hp
     obtain ⟨hr,hl4,hk4,hl3,hkk⟩:=fin (some .ret) W3 hk3 hp3
     exact ⟨_,_,hr,.inr ⟨rfl,⟨.ret,(hIx _).putObj _ hi3 (by omega) hl3 rfl,hl4,hk4⟩,hkk⟩⟩
   | exit id =>
     obtain ⟨hk3,hp3,hi3⟩:=hp
     obtain ⟨hr,hl4,hk4,hl3,hkk⟩:=fin (some (.exit id)) W3 hk3 hp3
     exact ⟨_,_,hr,.inr ⟨rfl,⟨.exit id,(hIx _).putObj _ hi3 (by omega) hl3 rfl,hl4,hk4⟩,hkk⟩⟩
   | goto t =>
     obtain ⟨hk3,hp3,hi3⟩:=hp
     obtain ⟨hr,hl4,hk4,hl3,hkk⟩:=fin (some (.goto t)) W3 hk3 hp3
     exact ⟨_,_,hr,.inr ⟨rfl,⟨.goto t,(hIx _).putObj _ hi3 (by omega) hl3 rfl,hl4,hk4⟩,hkk⟩⟩
   | panic ch=>exact hp.elim
   | outgrown=>exact hp.elim
  ·rintro e W2 ⟨⟨v,rfl⟩,(⟨xs,hs,hi,hl,hk⟩ | ⟨pre,hs,c,hi,hl,hk⟩)⟩
   ·exact ⟨none,_,by have:=run_endLoop (P:=P) hl (by rw [hrec];simp);rw [hrec] at this;exact this,hdone _ xs _ (Nat.le_refl _) ((hS xs).putObj (s:=()) _ hs (by omega) hl rfl) (hI.putObj _ hi (by omega) hl rfl) ((World.putObj_heap_other (by omega)).trans hk)⟩
   ·exact ⟨some c,_,by have:=run_endLoop (P:=P) hl (by rw [hrec];simp);rw [hrec] at this;exact this,hstop _ c pre _ (Nat.le_refl _) ((hSp pre).putObj (s:=()) _ hs (by omega) hl rfl) ((hIx c).putObj _ hi (by omega) hl rfl) ((World.putObj_heap_other (by omega)).trans hk)⟩
end Go.Proofs.YtgkddhncfaeidaaGreat
namespace Go.Proofs.YtgkddhncfaeidaaGreat
open Go.RowKit Go.Shelf CrcM PageM
attribute [local go_sem] Oper.semAt_some
theorem inX_load_row {F:Fence} {n:Nat} {P:Program} {ops:Array Oper} {rest:List Oper} {op:Oper} {a:Act} {w:World} {Q:Exit→Act→World→Prop} (hgd:op.guard=none) (ty:TypeId) (x:Operand) (ho:op.op=.load ty x)
 (g:Nat) (hx:a.eval x=.pointer (some ⟨g,0,none⟩)) (t:TypeId) (cs:Array Value) (fr:Nat × Nat) (d:TypeDesc) (hg:w.heap[g]?=some (.cells cs t fr))
 (hu:P.underlying ty=some d) (hd:(match d with | .struct _ | .array _ _=>true | _=>false)=true) (hi:(P.info? ty).map (·.size)=some cs.size)
 (h:wpListIn F n P ops Q rest (a.put op.dst (.agg cs)) w):wpListIn F n P ops Q (op :: rest) a w :=
 wpListIn_plain hgd fun K hK=>by
  unfold Oper.wpIn
  refine ⟨by simp [Oper.about,ho],?_⟩
  rw [Oper.semAt_plain F _ _ (by rw [ho];intro c hc';cases hc')]
  unfold execOp
  simp only [ho,hx,Instr.loadAt,Instr.sureAddr,Sem.run_bind,Sem.run_pure,Result.andThen_ok,run_loadVar_row w g t ty cs fr d hg hu hd hi]
  exact hK _ _ h
theorem inX_load_mid {F:Fence} {n:Nat} {P:Program} {ops:Array Oper} {rest:List Oper} {op:Oper} {a:Act} {w:World} {Q:Exit→Act→World→Prop} (hgd:op.guard=none) (ty:TypeId) (x:Operand) (ho:op.op=.load ty x)
 (b o:Nat) (hx:a.eval x=.pointer (some ⟨b,o,none⟩)) (cs:List Value) (d:TypeDesc) (hc:w.rangeAt b o cs) (hu:P.underlying ty=some d) (hd:d.isRow=true) (hi:(P.info? ty).map (·.size)=some cs.length)
 (h:wpListIn F n P ops Q rest (a.put op.dst (.agg cs.toArray)) w):wpListIn F n P ops Q (op :: rest) a w :=
 wpListIn_plain hgd fun K hK=>by
  unfold Oper.wpIn
  refine ⟨by simp [Oper.about,ho],?_⟩
  rw [Oper.semAt_plain F _ _ (by rw [ho];intro c hc';cases hc')]
  unfold execOp
  simp only [ho,hx,Instr.loadAt,Instr.sureAddr,Sem.run_bind,Sem.run_pure,Result.andThen_ok,run_loadVar_mid w b o ty cs d hc hu hd hi]
  exact hK _ _ h
theorem inX_store_row {F:Fence} {n:Nat} {P:Program} {ops:Array Oper} {rest:List Oper} {op:Oper} {a:Act} {w:World} {Q:Exit→Act→World→Prop} (hgd:op.guard=none) (ty:TypeId) (x y:Operand) (ho:op.op=.store ty x y)
 (g:Nat) (cells:Array Value) (hx:a.eval x=.pointer (some ⟨g,0,none⟩)) (hy:a.eval y=.agg cells)
 (t:TypeId) (old:Array Value) (hg:w.heap[g]?=some (.cells old t (0,0))) (hi:(P.info? ty).map (·.size)=some cells.size)
 (hold:old.size=cells.size) (h1:cells.all (·.oneCell')=true)
 (h:wpListIn F n P ops Q rest (a.put op.dst undef) (w.setRow g cells)):wpListIn F n P ops Q (op :: rest) a w :=
 wpListIn_plain hgd fun K hK=>by
  unfold Oper.wpIn
  refine ⟨by simp [Oper.about,ho],?_⟩
  rw [Oper.semAt_plain F _ _ (by rw [ho];intro c hc';cases hc')]
  unfold execOp
  simp only [ho,hx,hy,Instr.storeAt,Instr.sureAddr,Sem.run_bind,Sem.run_pure,Result.andThen_ok,run_storeVar_row w g t ty old cells hg hi hold h1]
  exact hK _ _ h
def SRow (W:World) (b:Nat) (xs:List StepM):Prop:=∃ cur,W.heap[b]?=some (.cells cur 96 (0,0))∧∀ (i:Nat) (x:StepM),xs[i]?=some x→∀ (j:Nat) (u:Value),(stC x)[j]?=some u→cur[i*6+j]?=some u
theorem SRow.range {W:World} {b:Nat} {xs:List StepM} (h:SRow W b xs) {i:Nat} {x:StepM} (hx:xs[i]?=some x):W.rangeAt b (i*6) (stC x):=fun j u hu=>by
 obtain ⟨cur,h1,h2⟩:=h
 exact nd_cell h1 (i*6+j) u (h2 i x hx j u hu)
theorem SRow.same {W W':World} {b:Nat} {xs:List StepM} (h:SRow W b xs) (e:W'.heap[b]?=W.heap[b]?):SRow W' b xs:=by
 obtain ⟨cur,h1,h2⟩:=h
 exact ⟨cur,e.trans h1,h2⟩
theorem SRow.of_row {w:World} {base n c:Nat} {A:Option Addr} {xs:List StepM} (h:w.ownsRow base 96 6 (.slice A n c) n (xs.flatMap stC)) (hn:n=xs.length) (h0:0<n):∃ b,A=some ⟨b,0,none⟩∧base≤b∧n≤c∧c≤maxLen∧SRow w b xs:=by
 rcases h.2 with ⟨_,hz⟩ | ⟨g,cap,cu,hv,hb,hg,hnc,hcm,hcs,htk⟩
 ·omega
 injection hv with hA _ hc
 subst hA hc
 refine ⟨g,rfl,hb,hnc,hcm,cu,hg,fun i x hx j u hu=>?_⟩
 have h1:=flat_get (m:=6) (f:=stC) (fun _=>rfl) xs i x j u hx hu
 rw [← htk] at h1
 have hlt:=(List.getElem?_eq_some_iff.1 h1).1
 rw [List.getElem?_take_of_lt (by rw [List.length_take] at hlt;omega)] at h1
 simpa using h1
def encB (xs:List StepM) (len j:Nat):Array Value:=#[.int .i64 ((len - 1 - j:Nat):Int),.agg ((xs[len - 1 - j]?.map stC).getD []).toArray]
def KpB (Bs b:Nat) (A B:World):Prop:=B.heap[Bs]?=A.heap[Bs]?∧B.heap[b]?=A.heap[b]?
theorem KpB.trans {Bs b:Nat} {A B C:World} (h:KpB Bs b A B) (k:KpB Bs b B C):KpB Bs b A C:=⟨k.1.trans h.1,k.2.trans h.2⟩
theorem back_seq (n:Nat) (hn:1≤n) (Bs b c len:Nat) (xs:List StepM) (hl:len≤xs.length) (hlc:len≤c) (hm:len≤1000) (hcm:c≤maxLen) :
 SeqX Fence.wide n Tryz.prog 90 #[.pointer (some ⟨Bs,0,none⟩)] (encB xs len) (fun A B=>A=B) (KpB Bs b) (fun _=>True) (fun _ _=>True) (fun W=>Boxed W Bs 90 (.slice (some ⟨b,0,none⟩) len c)∧SRow W b xs) (fun ys _=>ys=List.range len) (fun _ _=>True) len (fun pre x=>x=pre.length):=by
 intro l J Jx W hSt hJT _ _ hY h0
 have hro:Fence.wide.round=none:=rfl
 refine callsIn_of_wp Tryz.func90 rfl trivial ?_ hro
 simp only [Tryz.ntmps90,List.size_toArray,List.length_cons,List.length_nil,Nat.reduceAdd,Nat.reduceSub,Array.replicate_succ,Array.replicate_zero,List.push_toArray,List.append_toArray,List.nil_append,List.cons_append]
 have c0:=hSt.1.cell
 have hw0:wrap64 ((len:Int) - 1)=(len:Int) - 1:=by unfold wrap64;omega
 have HST:=Lib.hid hSt
 have H0:=Lib.hid h0
 have HY:=Lib.hid hY
 clear hSt h0 hY
 gi_wp2
 clear c0 hw0
 gi_loopw [3] (fun i wr=>∃ k:Nat,k≤len∧i=.int .i64 ((len:Int) - 1 - (k:Int))∧Hid (J (List.range k) wr∧Boxed wr Bs 90 (.slice (some ⟨b,0,none⟩) len c)∧SRow wr b xs))
  (fun i _=>(intOf i+1).toNat)
 case atStart=>exact ⟨0,Nat.zero_le _,by simp,Lib.hid ⟨H0.out,HST.out.1,HST.out.2⟩⟩
 case round =>
  obtain ⟨k,hk,rfl,HK⟩:=hrel
  have c1:=HK.out.2.1.cell
  by_cases hlt:k<len
  ·obtain ⟨i,hi⟩:∃ i,i=len - 1 - k:=⟨_,rfl⟩
   have hii:(len:Int) - 1 - (k:Int)=(i:Int):=by omega
   have hge:decide ((i:Int) ≥ 0)=true:=by simp
   have hil:(i:Int)<(len:Int):=by omega
   have hi0:0≤(i:Int):=by omega
   obtain ⟨x,hx⟩:∃ x,xs[i]?=some x:=⟨_,List.getElem?_eq_getElem (by omega)⟩
   have HR:=Lib.hid (HK.out.2.2.range hx)
   obtain ⟨fn,tmps,assign,body,hy,hR⟩:=HY.out (List.range k) k wr HK.out.1 (by rw [List.length_range];exact hlt) (by rw [List.length_range])
   dsimp only [encB] at hy
   rw [← hi,hx] at hy
   simp only [Option.map_some,Option.getD_some] at hy
   rw [hii]
   have HI:=Lib.hid hi
   clear hi hii
   gi_wp2_with (refine inX_load_mid rfl 96 (.tmp 15) rfl b (i*6) rfl (stC x) _ HR.out Tryz.underlying96 rfl (by kernel_rfl) ?_)
   refine hR.mono ?_
   rintro e W3 (⟨rfl,hJ3,hk3⟩ | ⟨rfl,hJx3,hk3⟩)
   ·have hw1:wrap64 ((i:Int) - 1)=(i:Int) - 1:=by unfold wrap64;omega
    have HB3:Hid (Boxed W3 Bs 90 (.slice (some ⟨b,0,none⟩) len c)):=Lib.hid (hk3.1.trans HK.out.2.1)
    have HS3:Hid (SRow W3 b xs):=Lib.hid (HK.out.2.2.same hk3.2)
    have HJ3:Hid (J (List.range (k+1)) W3):=Lib.hid (by rw [List.range_succ];exact hJ3)
    clear hJ3 hk3 c1
    gi_wp2
    go_roundw
    case rel=>exact ⟨k+1,by omega,by have:=HI.out;congr 1;omega,Lib.hid ⟨HJ3.out,HB3.out,HS3.out⟩⟩
    case measure=>have:=HI.out;simp only [intOf];omega
   ·gi_wp2
    refine bodyPost_ret (results_none rfl _ _ _) rfl ?_
    exact ⟨⟨_,rfl⟩,.inr ⟨_,trivial,hJx3⟩⟩
  ·obtain rfl:k=len:=by omega
   have hge:decide (((k:Int) - 1 - (k:Int)) ≥ 0)=false:=by simp;omega
   gi_wp2
   go_end0
   exact ⟨⟨_,rfl⟩,.inl ⟨_,rfl,HK.out.1⟩⟩
theorem back_in (n:Nat) (A:Option Addr) (len cap:Nat) (w:World) :
 CallsIn Fence.wide n Tryz.prog 60 #[.slice A len cap] w fun e w'=>e=.returned (.func (.func 90) #[] #[.pointer (some ⟨w.heap.size,0,none⟩)])∧w'=w.alloc (.cells #[.slice A len cap] 90):=by
 refine callsIn_of_wp Tryz.func60 rfl trivial ?_ rfl
 simp only [Tryz.ntmps60,List.size_toArray,List.length_cons,List.length_nil,Nat.reduceAdd,Nat.reduceSub,Array.replicate_succ,Array.replicate_zero,List.push_toArray,List.append_toArray,List.nil_append,List.cons_append]
 gi_wp2
 go_ret
 exact ⟨rfl,rfl⟩
end Go.Proofs.YtgkddhncfaeidaaGreat
