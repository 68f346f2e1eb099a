/- Squeezed: the texts as they are written lie in wip/tpl. -/
import Derived.RangeFuncNested
import Derived.RangeFuncBound
import Derived.RangeFuncCalls
import Derived.RangeFuncLeaves
import Derived.RangeFuncBox
import Derived.Shelf.Abstract
import Derived.Test.YtgkddhncfaeidaaGreatPart00
import Derived.Test.YtgkddhncfaeidaaGreatPart03
import Derived.Test.YtgkddhncfaeidaaGreatPart33
import Derived.Test.YtgkddhncfaeidaaGreatPart32
import Derived.Test.YtgkddhncfaeidaaGreatPart23
set_option maxRecDepth 100000
set_option maxHeartbeats 16000000
set_option linter.unusedSimpArgs false
set_option linter.unusedVariables false
namespace Go.Proofs.YtgkddhncfaeidaaGreat
set_option linter.unnecessarySimpa false
open Go.RowKit
def rdPost {α:Type} (B:Nat) (Kp:World→World→Prop) (I:List α→World→Prop) (Ix:Code→List α→World→Prop) (xs:List α) (W:World):Exit→Act→World→Prop
 | .normal,_,W'=>KeepsFrom B W W'∧Kp W W'∧I xs W'
 | .ret,_,W'=>KeepsFrom B W W'∧Kp W W'∧Ix .ret xs W'
 | .exit id,_,W'=>KeepsFrom B W W'∧Kp W W'∧Ix (.exit id) xs W'
 | .goto t,_,W'=>KeepsFrom B W W'∧Kp W W'∧Ix (.goto t) xs W'
 | _,_,_=>False
def SeqX {α:Type} (F:Fence) (n:Nat) (P:Program) (g:Nat) (lb:Array Value) (encs:α→Array Value) (T Kp:World→World→Prop) (Ok:World→Prop) (Cc:World→World→Prop) (St:World→Prop) (S Sp:List α→World→Prop) (N:Nat) (Nx:List α→α→Prop):Prop :=
 ∀ (l:Nat) (J Jx:List α→World→Prop) (W:World),St W→(∀ s A B,J s A→T A B→J s B)→(∀ s A,J s A→Ok A)→(∀ s A B,J s A→T A B→Cc A B) →
   (∀ pre x W1,J pre W1→pre.length<N→Nx pre x→YieldAt F (n - 1) P l (encs x) W1 fun e W'=>(e=.returned (.bool true)∧J (pre ++ [x]) W'∧Kp W1 W')∨(e=.returned (.bool false)∧Jx (pre ++ [x]) W'∧Kp W1 W'))→J [] W →
   CallsIn F n P g (#[.func (.yield l) #[] #[]] ++ lb) W fun e W'=>(∃ v,e=.returned v)∧((∃ xs,S xs W'∧J xs W')∨(∃ pre,Sp pre W'∧Jx pre W'))
theorem wpIn_rangeFunc_X {F:Fence} {n:Nat} {P:Program} {w:World} {α:Type} {g:Operand} {ps:Array Tmp} {assign body:Code} {Q:Exit→Act→World→Prop} {a:Act}
 (hro:F.round=none) (h1:1≤n) {gf:Nat} {lb:Array Value} (hg:a.eval g=.func (.func gf) #[] lb) (hFg:F.fn gf) (eg:∀ args w,(callFunc gf args).run P w=.ok (.enter gf args) w)
 {encs:α→Array Value} {T Kp:World→World→Prop} {Ok:World→Prop} {Cc:World→World→Prop} {St:World→Prop} {S Sp:List α→World→Prop} {N:Nat} {Nx:List α→α→Prop} (hseq:SeqX F (n - 1) P gf lb encs T Kp Ok Cc St S Sp N Nx)
 (hT:∀ (A B:World) (l:Nat) (o:Obj),w.heap.size≤l→A.heap[l]?=some o→o.isCells=false→T A B→B.heap[l]?=some o)
 (hKt:∀ {A B C:World},Kp A B→Kp B C→Kp A C) (hKb:∀ (W:World) (l:Nat) (o o':Obj),w.heap.size≤l→W.heap[l]?=some o→o.isCells=false→Kp W (W.putObj l o')) (hps:∀ x,(encs x).size=ps.size)
 (hSt:∀ W1,Below w.heap.size w W1→W1.heap.size=w.heap.size+2→St W1)
 (hS:∀ xs,OwnFrom w.heap.size (fun (_:Unit) W=>S xs W)) (hSp:∀ xs,OwnFrom w.heap.size (fun (_:Unit) W=>Sp xs W))
 (I:List α→World→Prop) (Ix:Code→List α→World→Prop) (hI:OwnFrom w.heap.size I) (hIx:∀ c,OwnFrom w.heap.size (Ix c)) (hIT:∀ s A B,I s A→T A B→I s B) (hIO:∀ s A,I s A→Ok A) (hIC:∀ s A B,I s A→T A B→Cc A B) (h0:I [] w) (Ax:α→Act→World→Prop) (hAx:∀ x a',OwnFrom w.heap.size (fun (_:Unit) W=>Ax x a' W))
 (hassign:∀ (l:Nat) (pre:List α) (x:α) (W:World) (K:Act→World→Prop),I pre W→pre.length<N→Nx pre x→(∀ a' W',KeepsFrom w.heap.size W W'→Kp W W'→I pre W'→Ax x a' W'→K a' W') →
  assign.wpIn (F.inRound l) (n - 1 - 1) P (Exit.then K (fun _ _ _=>False)) { tmps:=(ps.zip (encs x)).foldl (fun t (p,v)=>t.setIfInBounds p v) a.tmps,defers:=[] } W)
 (hbody:∀ (l:Nat) (pre:List α) (x:α) (a':Act) (W:World),w.heap.size≤l→(∃ r,W.heap[l]?=some (.loop r))→I pre W→Ax x a' W→pre.length<N→Nx pre x→body.wpIn (F.inRound l) (n - 1 - 1) P (rdPost w.heap.size Kp I Ix (pre ++ [x]) W) a' W)
 (hdone:∀ (D:Nat) (xs:List α) (W:World),w.heap.size≤D→S xs W→I xs W→W.heap[D]?=some (.deferred (some []))→Q .normal { a with defers:={ target:=.collected D,args:=#[] } :: a.defers } W)
 (hstop:∀ (D:Nat) (c:Code) (pre:List α) (W:World),w.heap.size≤D→Sp pre W→Ix c pre W→W.heap[D]?=some (.deferred (some []))→c.wpIn F n P Q { a with defers:={ target:=.collected D,args:=#[] } :: a.defers } W) :
 (Code.rangeFunc g ps assign body).wpIn F n P Q a w:=by
 refine wpIn_rangeFunc ?_
 intro fn hfn
 rw [hro]
 obtain ⟨rec,hrec⟩:∃ rec:LoopState→Option Code→Loop,rec=fun st pe=>{ state:=st,pending:=pe,fn,tmps:=a.tmps,params:=ps,assign,body,defers:=w.heap.size }:=⟨_,rfl⟩
 obtain ⟨W1,hW1⟩:∃ W1,(w.alloc (.deferred (some []))).alloc (.loop (rec .ready none))=W1:=⟨_,rfl⟩
 have hL1:W1.heap[w.heap.size+1]?=some (.loop (rec .ready none)):=by
  rw [← hW1];have:=World.alloc_heap_new (w.alloc (.deferred (some []))) (.loop (rec .ready none));rwa [World.size_alloc] at this
 have hK1:W1.heap[w.heap.size]?=some (.deferred (some [])):=by
  rw [← hW1];exact (Below.heap_alloc _ _ _ (by simp)).trans (World.alloc_heap_new w _)
 have hI1:I [] W1:=by rw [← hW1];exact hI.alloc _ (hI.alloc _ h0)
 have hb1:Below w.heap.size w W1:=by rw [← hW1];exact ((Below.refl _ w).alloc (Nat.le_refl _) _).alloc (by simp) _
 have hz1:W1.heap.size=w.heap.size+2:=by rw [← hW1];simp
 refine ⟨w.heap.size+1,[{ target:=.collected w.heap.size,args:=#[] }],W1,{ target:=.fn (.func gf) lb,args:=#[.func (.yield (w.heap.size+1)) #[] #[]] },W1,gf,
  #[.func (.yield (w.heap.size+1)) #[] #[]] ++ lb,W1,?_,?_,?_,?_,fun _=>h1,?_⟩
 ·rw [← hW1,hrec];exact run_enterLoop_outer _ _ _ _ _
 ·simp only [resolve,hg]
  simp [go_sem]
 ·intro f' hf';simp [Target.leads] at hf';subst hf';exact hFg
 ·simp [invoke,go_sem,eg]
 ·refine (hseq (w.heap.size+1)
   (fun pre W=>I pre W∧W.heap[w.heap.size+1]?=some (.loop (rec .ready none))∧W.heap[w.heap.size]?=some (.deferred (some [])))
   (fun pre W=>∃ c,Ix c pre W∧W.heap[w.heap.size+1]?=some (.loop (rec .done (some c)))∧W.heap[w.heap.size]?=some (.deferred (some [])))
   W1 (hSt W1 hb1 hz1)
   (fun s A B hs hAB=>⟨hIT s A B hs.1 hAB,hT A B _ _ (by omega) hs.2.1 rfl hAB,hT A B _ _ (Nat.le_refl _) hs.2.2 rfl hAB⟩) (fun s A hs=>hIO s A hs.1) (fun s A B hs hAB=>hIC s A B hs.1 hAB)
   ?_ ⟨hI1,hL1,hK1⟩).mono ?_
  ·rintro pre x W ⟨hi,hl,hk⟩ hlen hnx
   have hlt:w.heap.size+1<W.heap.size:=(Array.getElem?_eq_some_iff.1 hl).1
   have hy:=run_yield (P:=P) (args:=encs x) hl (by rw [hrec];exact hps x)
   rw [hrec] at hy
   refine ⟨fn,_,assign,body,hy,roundIn_of_wpIn hfn (hassign _ pre x W _ hi hlen hnx ?_)⟩
   clear hy
   intro a' Wa hkfa hkpa hia hax
   replace hl:=hkfa.same _ _ (by omega) hl rfl
   replace hk:=hkfa.same _ _ (Nat.le_refl _) hk rfl
   have hlt2:w.heap.size+1<Wa.heap.size:=(Array.getElem?_eq_some_iff.1 hl).1
   refine ⟨_,run_beginRound hl (by rw [hrec]),?_⟩
   obtain ⟨Wb,hWb⟩:∃ Wb,Wb=Wa.putObj (w.heap.size+1) (.loop { rec .ready none with state:=.busy }):=⟨_,rfl⟩
   have hl2:Wb.heap[w.heap.size+1]?=some (.loop { rec .ready none with state:=.busy }):=by rw [hWb];exact World.putObj_heap_same hlt2
   have hk2:Wb.heap[w.heap.size]?=some (.deferred (some [])):=by rw [hWb];exact (World.putObj_heap_other (by omega)).trans hk
   have hw2:Kp W Wb:=hKt hkpa (by rw [hWb];exact hKb _ _ _ _ (by omega) hl rfl)
   have hi2:I pre Wb:=by rw [hWb];exact hI.putObj _ hia (by omega) hl rfl
   have ha2:Ax x a' Wb:=by rw [hWb];exact (hAx x a').putObj (s:=()) _ hax (by omega) hl rfl
   rw [← hWb]
   refine wpIn_mono (hbody _ pre x a' Wb (by omega) ⟨_,hl2⟩ hi2 ha2 hlen hnx) ?_
   have fin:∀ (jump:Option Code) (W3:World),KeepsFrom w.heap.size Wb W3→Kp Wb W3 →
    (Instr.endRound (w.heap.size+1) jump).run P W3=.ok (.bool jump.isNone) (W3.putObj (w.heap.size+1) (.loop (rec (if jump.isNone then .ready else .done) jump))) ∧
    (W3.putObj (w.heap.size+1) (.loop (rec (if jump.isNone then .ready else .done) jump))).heap[w.heap.size+1]?=some (.loop (rec (if jump.isNone then .ready else .done) jump)) ∧
    (W3.putObj (w.heap.size+1) (.loop (rec (if jump.isNone then .ready else .done) jump))).heap[w.heap.size]?=some (.deferred (some [])) ∧
    W3.heap[w.heap.size+1]?=some (.loop { rec .ready none with state:=.busy }) ∧
    Kp W (W3.putObj (w.heap.size+1) (.loop (rec (if jump.isNone then .ready else .done) jump))):=fun jump W3 hk3 hp3=>by
    have hl3:=hk3.same _ _ (by omega) hl2 rfl
    have hr:=run_endRound (P:=P) jump hl3
    rw [hrec] at hr ⊢
    refine ⟨hr,World.putObj_heap_same (Array.getElem?_eq_some_iff.1 hl3).1,(World.putObj_heap_other (by omega)).trans (hk3.same _ _ (Nat.le_refl _) hk2 rfl),by rw [hrec] at hl3;exact hl3,hKt hw2 (hKt hp3 (hKb _ _ _ _ (by omega) hl3 rfl))⟩
   rintro e a3 W3 hp
   cases e with
   | normal =>
     obtain ⟨hk3,hp3,hi3⟩:=hp
     obtain ⟨hr,hl4,hk4,hl3,hkk⟩:=fin none W3 hk3 hp3
     exact ⟨_,_,hr,.inl ⟨rfl,⟨hI.putObj _ hi3 (by omega) hl3 rfl,hl4,hk4⟩,hkk⟩⟩
   | ret =>
     obtain ⟨hk3,hp3,hi3⟩:=hp
     obtain ⟨hr,hl4,hk4,hl3,hkk⟩:=fin (some .ret) W3 hk3 hp3
     exact ⟨_,_,hr,.inr ⟨rfl,⟨.ret,(hIx _).putObj _ hi3 (by omega) hl3 rfl,hl4,hk4⟩,hkk⟩⟩
   | exit id =>
     obtain ⟨hk3,hp3,hi3⟩:=hp
     obtain ⟨hr,hl4,hk4,hl3,hkk⟩:=fin (some (.exit id)) W3 hk3 hp3
     exact ⟨_,_,hr,.inr ⟨rfl,⟨.exit id,(hIx _).putObj _ hi3 (by omega) hl3 rfl,hl4,hk4⟩,hkk⟩⟩
   | goto t =>
     obtain ⟨hk3,hp3,hi3⟩:=hp
     obtain ⟨hr,hl4,hk4,hl3,hkk⟩:=fin (some (.goto t)) W3 hk3 hp3
     exact ⟨_,_,hr,.inr ⟨rfl,⟨.goto t,(hIx _).putObj _ hi3 (by omega) hl3 rfl,hl4,hk4⟩,hkk⟩⟩
   | panic ch=>exact hp.elim
   | outgrown=>exact hp.elim
  ·rintro e W2 ⟨⟨v,rfl⟩,(⟨xs,hs,hi,hl,hk⟩ | ⟨pre,hs,c,hi,hl,hk⟩)⟩
   ·exact ⟨none,_,by have:=run_endLoop (P:=P) hl (by rw [hrec];simp);rw [hrec] at this;exact this,hdone _ xs _ (Nat.le_refl _) ((hS xs).putObj (s:=()) _ hs (by omega) hl rfl) (hI.putObj _ hi (by omega) hl rfl) ((World.putObj_heap_other (by omega)).trans hk)⟩
   ·exact ⟨some c,_,by have:=run_endLoop (P:=P) hl (by rw [hrec];simp);rw [hrec] at this;exact this,hstop _ c pre _ (Nat.le_refl _) ((hSp pre).putObj (s:=()) _ hs (by omega) hl rfl) ((hIx c).putObj _ hi (by omega) hl rfl) ((World.putObj_heap_other (by omega)).trans hk)⟩
end Go.Proofs.YtgkddhncfaeidaaGreat
namespace Go.Proofs.YtgkddhncfaeidaaGreat
open Go.RowKit Go.Shelf CrcM PageM
attribute [local go_sem] Oper.semAt_some
theorem inX_load_row {F:Fence} {n:Nat} {P:Program} {ops:Array Oper} {rest:List Oper} {op:Oper} {a:Act} {w:World} {Q:Exit→Act→World→Prop} (hgd:op.guard=none) (ty:TypeId) (x:Operand) (ho:op.op=.load ty x)
 (g:Nat) (hx:a.eval x=.pointer (some ⟨g,0,none⟩)) (t:TypeId) (cs:Array Value) (fr:Nat × Nat) (d:TypeDesc) (hg:w.heap[g]?=some (.cells cs t fr))
 (hu:P.underlying ty=some d) (hd:(match d with | .struct _ | .array _ _=>true | _=>false)=true) (hi:(P.info? ty).map (·.size)=some cs.size)
 (h:wpListIn F n P ops Q rest (a.put op.dst (.agg cs)) w):wpListIn F n P ops Q (op :: rest) a w :=
 wpListIn_plain hgd fun K hK=>by
  unfold Oper.wpIn
  refine ⟨by simp [Oper.about,ho],?_⟩
  rw [Oper.semAt_plain F _ _ (by rw [ho];intro c hc';cases hc')]
  unfold execOp
  simp only [ho,hx,Instr.loadAt,Instr.sureAddr,Sem.run_bind,Sem.run_pure,Result.andThen_ok,run_loadVar_row w g t ty cs fr d hg hu hd hi]
  exact hK _ _ h
theorem inX_load_mid {F:Fence} {n:Nat} {P:Program} {ops:Array Oper} {rest:List Oper} {op:Oper} {a:Act} {w:World} {Q:Exit→Act→World→Prop} (hgd:op.guard=none) (ty:TypeId) (x:Operand) (ho:op.op=.load ty x)
 (b o:Nat) (hx:a.eval x=.pointer (some ⟨b,o,none⟩)) (cs:List Value) (d:TypeDesc) (hc:w.rangeAt b o cs) (hu:P.underlying ty=some d) (hd:d.isRow=true) (hi:(P.info? ty).map (·.size)=some cs.length)
 (h:wpListIn F n P ops Q rest (a.put op.dst (.agg cs.toArray)) w):wpListIn F n P ops Q (op :: rest) a w :=
 wpListIn_plain hgd fun K hK=>by
  unfold Oper.wpIn
  refine ⟨by simp [Oper.about,ho],?_⟩
  rw [Oper.semAt_plain F _ _ (by rw [ho];intro c hc';cases hc')]
  unfold execOp
  simp only [ho,hx,Instr.loadAt,Instr.sureAddr,Sem.run_bind,Sem.run_pure,Result.andThen_ok,run_loadVar_mid w b o ty cs d hc hu hd hi]
  exact hK _ _ h
theorem inX_store_row {F:Fence} {n:Nat} {P:Program} {ops:Array Oper} {rest:List Oper} {op:Oper} {a:Act} {w:World} {Q:Exit→Act→World→Prop} (hgd:op.guard=none) (ty:TypeId) (x y:Operand) (ho:op.op=.store ty x y)
 (g:Nat) (cells:Array Value) (hx:a.eval x=.pointer (some ⟨g,0,none⟩)) (hy:a.eval y=.agg cells)
 (t:TypeId) (old:Array Value) (hg:w.heap[g]?=some (.cells old t (0,0))) (hi:(P.info? ty).map (·.size)=some cells.size)
 (hold:old.size=cells.size) (h1:cells.all (·.oneCell')=true)
 (h:wpListIn F n P ops Q rest (a.put op.dst undef) (w.setRow g cells)):wpListIn F n P ops Q (op :: rest) a w :=
 wpListIn_plain hgd fun K hK=>by
  unfold Oper.wpIn
  refine ⟨by simp [Oper.about,ho],?_⟩
  rw [Oper.semAt_plain F _ _ (by rw [ho];intro c hc';cases hc')]
  unfold execOp
  simp only [ho,hx,hy,Instr.storeAt,Instr.sureAddr,Sem.run_bind,Sem.run_pure,Result.andThen_ok,run_storeVar_row w g t ty old cells hg hi hold h1]
  exact hK _ _ h
def SRow (W:World) (b:Nat) (xs:List StepM):Prop:=∃ cur,W.heap[b]?=some (.cells cur 96 (0,0))∧∀ (i:Nat) (x:StepM),xs[i]?=some x→∀ (j:Nat) (u:Value),(stC x)[j]?=some u→cur[i*6+j]?=some u
theorem SRow.range {W:World} {b:Nat} {xs:List StepM} (h:SRow W b xs) {i:Nat} {x:StepM} (hx:xs[i]?=some x):W.rangeAt b (i*6) (stC x):=fun j u hu=>by
 obtain ⟨cur,h1,h2⟩:=h
 exact nd_cell h1 (i*6+j) u (h2 i x hx j u hu)
theorem SRow.same {W W':World} {b:Nat} {xs:List StepM} (h:SRow W b xs) (e:W'.heap[b]?=W.heap[b]?):SRow W' b xs:=by
 obtain ⟨cur,h1,h2⟩:=h
 exact ⟨cur,e.trans h1,h2⟩
theorem SRow.of_row {w:World} {base n c:Nat} {A:Option Addr} {xs:List StepM} (h:w.ownsRow base 96 6 (.slice A n c) n (xs.flatMap stC)) (hn:n=xs.length) (h0:0<n):∃ b,A=some ⟨b,0,none⟩∧base≤b∧n≤c∧c≤maxLen∧SRow w b xs:=by
 rcases h.2 with ⟨_,hz⟩ | ⟨g,cap,cu,hv,hb,hg,hnc,hcm,hcs,htk⟩
 ·omega
 injection hv with hA _ hc
 subst hA hc
 refine ⟨g,rfl,hb,hnc,hcm,cu,hg,fun i x hx j u hu=>?_⟩
 have h1:=flat_get (m:=6) (f:=stC) (fun _=>rfl) xs i x j u hx hu
 rw [← htk] at h1
 have hlt:=(List.getElem?_eq_some_iff.1 h1).1
 rw [List.getElem?_take_of_lt (by rw [List.length_take] at hlt;omega)] at h1
 simpa using h1
def encB (xs:List StepM) (len j:Nat):Array Value:=#[.int .i64 ((len - 1 - j:Nat):Int),.agg ((xs[len - 1 - j]?.map stC).getD []).toArray]
def KpB (Bs b:Nat) (A B:World):Prop:=B.heap[Bs]?=A.heap[Bs]?∧B.heap[b]?=A.heap[b]?
theorem KpB.trans {Bs b:Nat} {A B C:World} (h:KpB Bs b A B) (k:KpB Bs b B C):KpB Bs b A C:=⟨k.1.trans h.1,k.2.trans h.2⟩
theorem back_seq (n:Nat) (hn:1≤n) (Bs b c len:Nat) (xs:List StepM) (hl:len≤xs.length) (hlc:len≤c) (hm:len≤1000) (hcm:c≤maxLen) :
 SeqX Fence.wide n Tryz.prog 90 #[.pointer (some ⟨Bs,0,none⟩)] (encB xs len) (fun A B=>A=B) (KpB Bs b) (fun _=>True) (fun _ _=>True) (fun W=>Boxed W Bs 90 (.slice (some ⟨b,0,none⟩) len c)∧SRow W b xs) (fun ys _=>ys=List.range len) (fun _ _=>True) len (fun pre x=>x=pre.length):=by
 intro l J Jx W hSt hJT _ _ hY h0
 have hro:Fence.wide.round=none:=rfl
 refine callsIn_of_wp Tryz.func90 rfl trivial ?_ hro
 simp only [Tryz.ntmps90,List.size_toArray,List.length_cons,List.length_nil,Nat.reduceAdd,Nat.reduceSub,Array.replicate_succ,Array.replicate_zero,List.push_toArray,List.append_toArray,List.nil_append,List.cons_append]
 have c0:=hSt.1.cell
 have hw0:wrap64 ((len:Int) - 1)=(len:Int) - 1:=by unfold wrap64;omega
 have HST:=Lib.hid hSt
 have H0:=Lib.hid h0
 have HY:=Lib.hid hY
 clear hSt h0 hY
 gi_wp2
 clear c0 hw0
 gi_loopw [3] (fun i wr=>∃ k:Nat,k≤len∧i=.int .i64 ((len:Int) - 1 - (k:Int))∧Hid (J (List.range k) wr∧Boxed wr Bs 90 (.slice (some ⟨b,0,none⟩) len c)∧SRow wr b xs))
  (fun i _=>(intOf i+1).toNat)
 case atStart=>exact ⟨0,Nat.zero_le _,by simp,Lib.hid ⟨H0.out,HST.out.1,HST.out.2⟩⟩
 case round =>
  obtain ⟨k,hk,rfl,HK⟩:=hrel
  have c1:=HK.out.2.1.cell
  by_cases hlt:k<len
  ·obtain ⟨i,hi⟩:∃ i,i=len - 1 - k:=⟨_,rfl⟩
   have hii:(len:Int) - 1 - (k:Int)=(i:Int):=by omega
   have hge:decide ((i:Int) ≥ 0)=true:=by simp
   have hil:(i:Int)<(len:Int):=by omega
   have hi0:0≤(i:Int):=by omega
   obtain ⟨x,hx⟩:∃ x,xs[i]?=some x:=⟨_,List.getElem?_eq_getElem (by omega)⟩
   have HR:=Lib.hid (HK.out.2.2.range hx)
   obtain ⟨fn,tmps,assign,body,hy,hR⟩:=HY.out (List.range k) k wr HK.out.1 (by rw [List.length_range];exact hlt) (by rw [List.length_range])
   dsimp only [encB] at hy
   rw [← hi,hx] at hy
   simp only [Option.map_some,Option.getD_some] at hy
   rw [hii]
   have HI:=Lib.hid hi
   clear hi hii
   gi_wp2_with (refine inX_load_mid rfl 96 (.tmp 15) rfl b (i*6) rfl (stC x) _ HR.out Tryz.underlying96 rfl (by kernel_rfl) ?_)
   refine hR.mono ?_
   rintro e W3 (⟨rfl,hJ3,hk3⟩ | ⟨rfl,hJx3,hk3⟩)
   ·have hw1:wrap64 ((i:Int) - 1)=(i:Int) - 1:=by unfold wrap64;omega
    have HB3:Hid (Boxed W3 Bs 90 (.slice (some ⟨b,0,none⟩) len c)):=Lib.hid (hk3.1.trans HK.out.2.1)
    have HS3:Hid (SRow W3 b xs):=Lib.hid (HK.out.2.2.same hk3.2)
    have HJ3:Hid (J (List.range (k+1)) W3):=Lib.hid (by rw [List.range_succ];exact hJ3)
    clear hJ3 hk3 c1
    gi_wp2
    go_roundw
    case rel=>exact ⟨k+1,by omega,by have:=HI.out;congr 1;omega,Lib.hid ⟨HJ3.out,HB3.out,HS3.out⟩⟩
    case measure=>have:=HI.out;simp only [intOf];omega
   ·gi_wp2
    refine bodyPost_ret (results_none rfl _ _ _) rfl ?_
    exact ⟨⟨_,rfl⟩,.inr ⟨_,trivial,hJx3⟩⟩
  ·obtain rfl:k=len:=by omega
   have hge:decide (((k:Int) - 1 - (k:Int)) ≥ 0)=false:=by simp;omega
   gi_wp2
   go_end0
   exact ⟨⟨_,rfl⟩,.inl ⟨_,rfl,HK.out.1⟩⟩
theorem back_in (n:Nat) (A:Option Addr) (len cap:Nat) (w:World) :
 CallsIn Fence.wide n Tryz.prog 60 #[.slice A len cap] w fun e w'=>e=.returned (.func (.func 90) #[] #[.pointer (some ⟨w.heap.size,0,none⟩)])∧w'=w.alloc (.cells #[.slice A len cap] 90):=by
 refine callsIn_of_wp Tryz.func60 rfl trivial ?_ rfl
 simp only [Tryz.ntmps60,List.size_toArray,List.length_cons,List.length_nil,Nat.reduceAdd,Nat.reduceSub,Array.replicate_succ,Array.replicate_zero,List.push_toArray,List.append_toArray,List.nil_append,List.cons_append]
 gi_wp2
 go_ret
 exact ⟨rfl,rfl⟩
end Go.Proofs.YtgkddhncfaeidaaGreat
namespace Go.Proofs.YtgkddhncfaeidaaGreat
open Go.RowKit Go.ChangeShapes Go.WideShapes Go.ChangeAt CrcM PageM
attribute [local go_sem] Oper.semAt_some
def WayX (pre:List StepM) (k:Nat):Prop:=∃ x ∈ pre,x.l.KA.map (·.block)=some k∨x.l.DA.map (·.block)=some k
theorem wp_namedC {P:Program} {c:Code} {Q:Exit→Act→World→Prop} {T:Array Value} {d:List Deferred} {w:World} (h:∀ T0,T0=T→c.wp P Q { tmps:=T0,defers:=d } w):c.wp P Q { tmps:=T,defers:=d } w:=h T rfl
theorem run_loadVar_oneC {P:Program} (w:World) (ty:TypeId) (a:Addr) (v:Value) (d:TypeDesc) (hu:P.underlying ty=some d) (hd:(match d with | .struct _ | .array _ _=>true | _=>false)=false) (hc:w.cell? a=some v):(loadVar ty a).run P w=.ok v w:=by
 have hagg:(isAgg ty).run P w=.ok false w:=by
  unfold isAgg
  rw [Sem.run_bind,run_underlying hu w]
  cases d <;> simp_all
 unfold loadVar
 rw [Sem.run_bind,hagg]
 simp [go_sem,hc]
theorem results_cellsC2 {P:Program} {fn:Func} {p q:Tmp} {t1 t2:TypeId} (h:fn.results=#[.cell p t1,.cell q t2]) (tmps:Array Value) (w:World) (a1 a2:Addr) (v1 v2:Value)
 (h1:tmps.getD p undef=.pointer (some a1)) (h2:tmps.getD q undef=.pointer (some a2)) (l1:(loadVar t1 a1).run P w=.ok v1 w) (l2:(loadVar t2 a2).run P w=.ok v2 w) :
 (results fn tmps).run P w=.ok (.tuple #[v1,v2]) w:=by
 have e1:tmps[p]?.getD undef=.pointer (some a1):=by simpa using h1
 have e2:tmps[q]?.getD undef=.pointer (some a2):=by simpa using h2
 simp [results,h,e1,e2,asAddr,l1,l2]
structure ClG (w wr:World) (gc gv p B0 b3 b5 b6 b7 k:Nat) (V:List Bool) (n0:NodeD) (l0:NdL) (U:List Bool):Prop where
 chg:ChgS wr gc gv p B0 U V (.slice none 0 0) []
 fit:FitU p V U k []
 out:OuterX (fun k=>k=gc) w wr
 box:wr.heap[b5]?=some (.cells #[.bool n0.leaf,.slice l0.EA n0.es.length l0.ec,.slice l0.KA n0.ks.length l0.kc,.slice l0.DA n0.ds.length l0.dc] 86 (0,0))
 c3:wr.heap[b3]?=some (.cells #[.pointer (some ⟨gc,0,none⟩)] 78 (0,0))
 c6:wr.heap[b6]?=some (.cells #[.int .i64 0,.int .i64 0] 43 (0,0))
 c7:wr.heap[b7]?=some (.cells #[.int .i64 0] 44 (0,0))
theorem ClG.below {w wr w':World} {gc gv p B0 b3 b5 b6 b7 k:Nat} {V:List Bool} {n0:NodeD} {l0:NdL} {U:List Bool} (h:ClG w wr gc gv p B0 b3 b5 b6 b7 k V n0 l0 U) (hb:Below wr.heap.size wr w'):ClG w w' gc gv p B0 b3 b5 b6 b7 k V n0 l0 U :=
 ⟨h.chg.below hb,h.fit,outX_trans h.out (outerX_of_below hb),row_stays h.box hb,row_stays h.c3 hb,row_stays h.c6 hb,row_stays h.c7 hb⟩
theorem ClG.give {w wr w':World} {gc gv p B0 b3 b5 b6 b7 k:Nat} {V:List Bool} {n0:NodeD} {l0:NdL} {U:List Bool} (h:ClG w wr gc gv p B0 b3 b5 b6 b7 k V n0 l0 U) {a:Nat} (h2:2≤a) (hp:a<p) (hv:V.getD a false=true) (hc:ChgAt w' gc gv (p:Int) (markN U a false 1) V (.slice none 0 0)) (ho:OuterX (fun k=>k=gc) wr w'):ClG w w' gc gv p B0 b3 b5 b6 b7 k V n0 l0 (markN U a false 1) :=
 ⟨h.chg.offgc hc ho,h.fit.give h2 hp hv,outX_trans h.out ho,row_off h.box (by decide) h.chg.chg ho,row_off h.c3 (by decide) h.chg.chg ho,row_off h.c6 (by decide) h.chg.chg ho,row_off h.c7 (by decide) h.chg.chg ho⟩
attribute [local go_sem] Oper.semAt_some
def BhR (PK:KeyD→Prop) (e:Ending):Prop:=∃ (k:KeyD) (ok:Bool),e=.returned (.tuple #[.agg #[.int .i64 k.se,.int .i64 k.st],.bool ok])∧(ok=true→PK k)
structure BhI (w W:World) (r2 r3:Nat) (a b:Int) (v:Bool):Prop where
 bel:Below w.heap.size w W
 c2:W.heap[r2]?=some (.cells #[.int .i64 a,.int .i64 b] 38 (0,0))
 c3:W.heap[r3]?=some (.cells #[.bool v] 4 (0,0))
theorem BhI.keep {w A B:World} {r2 r3:Nat} {a b:Int} {v:Bool} (h:BhI w A r2 r3 a b v) (os:B.os=A.os) (tp:B.tape=A.tape) (ot:B.output=A.output) (hs:A.heap.size≤B.heap.size) (hlow:∀ k,k<w.heap.size→B.heap[k]?=A.heap[k]?) (hk:∀ (k:Nat) (cs:Array Value) (T:TypeId) (fr:Nat × Nat),A.heap[k]?=some (Obj.cells cs T fr)→B.heap[k]?=A.heap[k]?):BhI w B r2 r3 a b v :=
 ⟨⟨os.trans h.bel.os,tp.trans h.bel.tape,ot.trans h.bel.output,Nat.le_trans h.bel.size hs,fun k h1=>(hlow k h1).trans (h.bel.block k h1)⟩,(hk _ _ _ _ h.c2).trans h.c2,(hk _ _ _ _ h.c3).trans h.c3⟩
theorem BhI.below {w A B:World} {r2 r3:Nat} {a b:Int} {v:Bool} (h:BhI w A r2 r3 a b v) (hb:Below A.heap.size A B):BhI w B r2 r3 a b v :=
 h.keep hb.os hb.tape hb.output hb.size (fun k h1=>hb.block k (Nat.lt_of_lt_of_le h1 h.bel.size)) (fun k cs T fr h1=>hb.block k (Array.getElem?_eq_some_iff.1 h1).1)
theorem BhI.oth {W:World} {r2 r3:Nat} (C:Array Value) (v:Value) {k:Nat} (h2:k≠r2) (h3:k≠r3):((W.setRow r2 C).setCell ⟨r3,0,none⟩ v).heap[k]?=W.heap[k]? :=
 (Below.heap_setCell _ ⟨r3,0,none⟩ v k h3).trans (setRow_other W r2 k C h2)
theorem BhI.set {w W:World} {r2 r3:Nat} (hr:r2=w.heap.size∧r3=w.heap.size+1) {a b:Int} {v:Bool} (h:BhI w W r2 r3 a b v) (a' b':Int) (v':Bool):BhI w ((W.setRow r2 #[.int .i64 a',.int .i64 b']).setCell ⟨r3,0,none⟩ (.bool v')) r2 r3 a' b' v' where
 bel:=⟨h.bel.os,h.bel.tape,h.bel.output,by simpa using h.bel.size,fun k hk=>(BhI.oth _ _ (by omega) (by omega)).trans (h.bel.block k hk)⟩
 c2:=(Below.heap_setCell _ ⟨r3,0,none⟩ _ r2 (by show r2≠r3;omega)).trans (setRow_heap _ _ _ _ _ _ h.c2)
 c3:=Boxed.set (v:=.bool v) _ ((setRow_other W r2 r3 _ (by omega)).trans h.c3)
theorem BhI.put {w W:World} {r2 r3:Nat} {a b:Int} {v:Bool} (h:BhI w W r2 r3 a b v) {D:Nat} {o o':Obj} (hD:W.heap[D]?=some o) (ho:o.isCells=false) (hw:w.heap.size≤D):BhI w (W.putObj D o') r2 r3 a b v:=by
 have hpg:=grownBy_putObj' W D o'
 have hne:∀ (k:Nat) (cs:Array Value) (T:TypeId) (fr:Nat × Nat),W.heap[k]?=some (Obj.cells cs T fr)→(some k:Option Nat)≠some D:=fun k cs T fr hk e=>by
  cases e
  rw [hk] at hD
  cases hD
  cases ho
 exact h.keep hpg.os hpg.tape hpg.output hpg.size (fun k hk=>hpg.block k (Nat.lt_of_lt_of_le hk h.bel.size) (fun e=>by cases e;omega)) (fun k cs T fr hk=>hpg.block k (Array.getElem?_eq_some_iff.1 hk).1 (hne k cs T fr hk))
theorem BhI.res {w W:World} {r2 r3:Nat} {a b:Int} {v:Bool} (h:BhI w W r2 r3 a b v) (tmps:Array Value) (h2:tmps.getD 2 undef=.pointer (some ⟨r2,0,none⟩)) (h3:tmps.getD 3 undef=.pointer (some ⟨r3,0,none⟩)):(results Tryz.f63 tmps).run Tryz.prog W=.ok (.tuple #[.agg #[.int .i64 a,.int .i64 b],.bool v]) W :=
 results_cellsC2 (p:=2) (q:=3) rfl tmps W ⟨r2,0,none⟩ ⟨r3,0,none⟩ _ _ h2 h3 (run_loadVar_row _ r2 38 38 _ (0,0) _ h.c2 Tryz.underlying38 rfl (by kernel_rfl)) (run_loadVar_oneC _ _ _ _ _ Tryz.underlying4 rfl (nd_cell h.c3 0 _ rfl))
theorem behind_way (PK:KeyD→Prop) (pre:List StepM) (A:Option Addr) (c h bw b1:Nat) (x:StepM) (hlen:pre.length=h+1) (h4:h≤4) (hx:pre[h]?=some x) (w:World) (hrow:w.ownsRow bw 96 6 (.slice A (h+1) c) (h+1) (pre.flatMap stC)) (hnod:∀ y ∈ pre,OwnN w b1 y.s.n y.l)
 (hsz:∀ y ∈ pre,y.s.n.es.length≤1000∧y.s.n.ks.length≤1000∧y.s.at_≤1000) (hlf:∀ e,x.s.n.es[x.s.at_]?=some e→PK e.key) (hin:∀ (i:Nat) (y:StepM) (k:KeyD),i<h→pre[i]?=some y→y.s.n.ks[y.s.at_+1]?=some k→PK k) :
 Calls Tryz.prog 63 #[.slice A (h+1) c] w fun e w'=>BhR PK e∧Below w.heap.size w w':=by
 obtain ⟨b,hAb,hbw,hnc,hcm,hsr⟩:=SRow.of_row hrow hlen.symm (by omega)
 subst hAb
 have HLEN:=Lib.hid hlen
 have HX:=Lib.hid hx
 have HSR:=Lib.hid hsr
 have HND:=Lib.hid hnod
 have HSZ:=Lib.hid hsz
 have HLF:=Lib.hid hlf
 have HIN:=Lib.hid hin
 have HBL:Hid (b<w.heap.size):=Lib.hid (by
  obtain ⟨cur,q1,_⟩:=hsr
  exact (Array.getElem?_eq_some_iff.1 q1).1)
 unfold maxLen at hcm
 clear hlen hx hsr hnod hsz hlf hin hrow
 obtain ⟨w2,hw2⟩:∃ w2,w2=(w.alloc (.cells #[.int .i64 0,.int .i64 0] 38)).alloc (.cells #[.bool false] 4):=⟨_,rfl⟩
 have B2:Hid (Below w.heap.size w w2):=Lib.hid (by rw [hw2];exact below_two (Below.refl _ _))
 have A2:Hid (w2.heap[w.heap.size]?=some (.cells #[.int .i64 0,.int .i64 0] 38 (0,0))):=Lib.hid (by rw [hw2];exact heap_alloc2_old _ _ _)
 have A3:Hid (w2.heap[w.heap.size+1]?=some (.cells #[.bool false] 4 (0,0))):=Lib.hid (by rw [hw2];exact heap_alloc2_new _ _ _)
 have Z2:Hid (w2.heap.size=w.heap.size+2):=Lib.hid (by rw [hw2];simp)
 refine (callsIn_wide (n:=3)).1 ?_
 refine callsIn_of_wp_marks Tryz.func63 rfl trivial ?_ rfl
 simp only [Tryz.ntmps63,List.size_toArray,List.length_cons,List.length_nil,Nat.reduceAdd,Nat.reduceSub,Array.replicate_succ,Array.replicate_zero,List.push_toArray,List.append_toArray,List.nil_append,List.cons_append]
 refine wpIn_wide.2 ?_
 go_upto_region 1 with fail
 rw [← hw2]
 clear hw2
 obtain ⟨r2,hr2⟩:∃ r2,r2=w.heap.size:=⟨_,rfl⟩
 obtain ⟨r3,hr3⟩:∃ r3,r3=w.heap.size+1:=⟨_,rfl⟩
 rw [← hr2] at A2
 rw [← hr3] at A3
 rw [← hr3,← hr2]
 have HR23:Hid (r2=w.heap.size∧r3=w.heap.size+1):=Lib.hid ⟨hr2,hr3⟩
 clear hr2 hr3
 have hw1:wrap64 (((h+1:Nat):Int) - 1)=(h:Int):=by unfold wrap64;omega
 have hw3:wrap64 ((h:Int)+1 - 1)=(h:Int):=by unfold wrap64;omega
 have hh1:(h:Int)<((h+1:Nat):Int):=by omega
 have hh2:(h:Int)<(h:Int)+1:=by omega
 have HRG:Hid (w2.rangeAt b (h*6) (stC x)):=Lib.hid ((HSR.out.same (B2.out.block b HBL.out)).range HX.out)
 go_upto_region 2 with (first
  | (refine wpList_load_mid rfl 96 (.tmp 11) rfl b (h*6) rfl (stC x) _ HRG.out Tryz.underlying96 rfl (by kernel_rfl) ?_)
  | (refine wpList_store_row rfl 96 (.tmp 4) (.tmp 12) rfl w2.heap.size (stC x).toArray rfl rfl 96 _ (heap_alloc_new _ _) (by kernel_rfl) rfl (by simp [stC,Value.oneCell']) ?_))
 obtain ⟨w4,hw4⟩:∃ w4,w4=(w2.alloc (.cells #[.int .i64 0,.bool false,.slice none 0 0,.slice none 0 0,.slice none 0 0,.int .i64 0] 96)).setRow w2.heap.size (stC x).toArray:=⟨_,rfl⟩
 have B24:Hid (Below w2.heap.size w2 w4):=Lib.hid (by rw [hw4];exact below_setRow (alloc_bel rfl) (Nat.le_refl _) _)
 obtain ⟨b4,hb4⟩:∃ b4,b4=w2.heap.size:=⟨_,rfl⟩
 have K4:Hid (w4.heap[b4]?=some (.cells (stC x).toArray 96 (0,0))):=Lib.hid (by rw [hw4,hb4];exact setRow_heap _ _ _ _ _ _ (heap_alloc_new _ _))
 rw [← hw4,← hb4]
 clear hw4 hb4 hw1 hw3 hh1 hh2
 try simp only [Act.put,List.setIfInBounds_toArray,List.set_cons_zero,List.set_cons_succ]
 have B4:Hid (Below w.heap.size w w4):=Lib.hid (B2.out.trans (B24.out.mono B2.out.size))
 have A42:=Lib.hid (row_stays A2.out B24.out)
 have A43:=Lib.hid (row_stays A3.out B24.out)
 have HNX:=Lib.hid ((HND.out x (List.mem_of_getElem? HX.out)).below B4.out)
 have hsx:=HSZ.out x (List.mem_of_getElem? HX.out)
 obtain ⟨⟨xa,xn,xr⟩,xl⟩:=x
 dsimp only at hsx
 obtain ⟨ne,hne⟩:∃ ne,ne=xn.es.length:=⟨_,rfl⟩
 have HNE:=Lib.hid hne
 rw [← hne] at hsx
 have c2:w4.cell? ⟨b4,2,none⟩=some (.slice xl.EA ne xl.ec):=by rw [hne];exact nd_cell K4.out 2 _ rfl
 have c5:w4.cell? ⟨b4,5,none⟩=some (.int .i64 (xr:Int)):=nd_cell K4.out 5 _ rfl
 clear hne
 by_cases hlt:xr<ne
 ·obtain ⟨e,he⟩:∃ e,xn.es[xr]?=some e:=⟨_,List.getElem?_eq_getElem (by rw [← HNE.out];exact hlt)⟩
  have HPK:=Lib.hid (HLF.out e he)
  obtain ⟨be,oe,hEA,hce⟩:=EnAt.of_row (HNX.out.1) (by intro h;rw [h] at he;cases he)
  dsimp only at hEA
  obtain ⟨e0,e1,-,-,-,-,-,-⟩:=hce xr e he
  rw [hEA] at c2
  clear hce he hEA
  have N3:(w4.setRow r2 #[.int .i64 e.se,.int .i64 e.st]).heap[r3]?=some (.cells #[.bool false] 4 (0,0)):=(setRow_other w4 r2 r3 _ (by have:=HR23.out;omega)).trans A43.out
  have k3:(w4.setRow r2 #[.int .i64 e.se,.int .i64 e.st]).cell? ⟨r3,0,none⟩=some (.bool false):=nd_cell N3 0 _ rfl
  have f3:(w4.setRow r2 #[.int .i64 e.se,.int .i64 e.st]).frozen? ⟨r3,0,none⟩=false:=by simp [World.frozen?,N3]
  go_wp2_with (refine wpList_store_row rfl 38 (.tmp 2) (.tmp 27) rfl r2 #[.int .i64 e.se,.int .i64 e.st] rfl rfl 38 _ A42.out (by kernel_rfl) rfl (by simp [Value.oneCell']) ?_)
  have q4:=BhI.set HR23.out ⟨B4.out,A42.out,A43.out⟩ e.se e.st true
  refine ⟨_,q4.res _ ?_ ?_,⟨e.key,true,rfl,fun _=>HPK.out⟩,q4.bel⟩ <;> rfl
 ·have hltf:decide ((xr:Int)<(ne:Int))=false:=by simp;omega
  have hw1:wrap64 (((h+1:Nat):Int) - 1)=(h:Int):=by unfold wrap64;omega
  have hw2:wrap64 ((h:Int)+1 - 1)=(h:Int):=by unfold wrap64;omega
  have hhc:(h:Int)≤(c:Int):=by omega
  go_upto_region 5 with (go_at_call 60;refine (callsIn_wide.1 (back_in 3 _ _ _ w4)).mono ?_;rintro e w5 ⟨rfl,hw5⟩;have HW5:=Lib.hid hw5;clear hw5)
  clear hltf hw1 hw2 hhc c2 c5 hlt
  obtain ⟨Bs,hBs⟩:∃ Bs,Bs=w4.heap.size:=⟨_,rfl⟩
  have B45:Hid (Below w4.heap.size w4 w5):=Lib.hid (alloc_bel HW5.out)
  have Z5:Hid (w5.heap.size=Bs+1):=Lib.hid (by rw [HW5.out,hBs];simp)
  have X5:Hid (Boxed w5 Bs 90 (.slice (some ⟨b,0,none⟩) h c)):=Lib.hid (by rw [HW5.out,hBs];exact heap_alloc_new _ _)
  have B5:Hid (Below w.heap.size w w5):=Lib.hid (B4.out.trans (B45.out.mono B4.out.size))
  have SR5:Hid (SRow w5 b pre):=Lib.hid (HSR.out.same (B5.out.block b HBL.out))
  have LB:Hid (b<w.heap.size∧w.heap.size+2≤Bs):=Lib.hid ⟨HBL.out,by rw [hBs,← Z2.out];exact B24.out.size⟩
  have A25:=Lib.hid (row_stays A42.out B45.out)
  have A35:=Lib.hid (row_stays A43.out B45.out)
  rw [← hBs]
  clear hBs HW5 B45 K4
  refine wp_namedC ?_
  intro T0 hT0
  refine (wpIn_wide (n:=3)).1 ?_
  refine wpIn_rangeFunc_X rfl (by decide) (gf:=90) (lb:=#[.pointer (some ⟨Bs,0,none⟩)]) (by rw [hT0];rfl) trivial (enters_of Tryz.func90 (by kernel_rfl) rfl)
   (back_seq 2 (by decide) Bs b c h pre (by rw [HLEN.out];omega) (by omega) (by omega) hcm)
   (fun A B l o _ ho _ h=>by rw [← h];exact ho) KpB.trans (fun W l o o' hl ho hc=>by
    have:=LB.out;have:=Z5.out
    exact ⟨World.putObj_heap_other (by omega),World.putObj_heap_other (by omega)⟩) (fun _=>rfl)
   (fun W1 hb hz=>⟨row_stays X5.out hb,SR5.out.same (hb.block b (by have:=LB.out;have:=Z5.out;omega))⟩)
   (fun xs s A B row hs hg hr=>hs) (fun xs s A B row hs hg hr=>hs)
   (fun ys W=>ys.length≤h∧w5.heap.size≤W.heap.size∧Boxed W Bs 90 (.slice (some ⟨b,0,none⟩) h c)∧SRow W b pre∧BhI w W r2 r3 0 0 false)
   (fun cd ys W=>cd=.ret∧w5.heap.size≤W.heap.size∧∃ k,PK k∧BhI w W r2 r3 k.se k.st true)
   (fun s A B row hs hg hr=>by
    have hkk:∀ (k:Nat) (cs:Array Value) (T:TypeId) (fr:Nat × Nat),A.heap[k]?=some (Obj.cells cs T fr)→B.heap[k]?=A.heap[k]?:=fun k cs T fr hk=>hg.block k (Array.getElem?_eq_some_iff.1 hk).1 (fun e=>by
     obtain ⟨_,o,ho,hc⟩:=hr k e.symm
     rw [hk] at ho
     cases ho
     cases hc)
    obtain ⟨h1,h2,h3,h4,h5⟩:=hs
    have h4':SRow B b pre:=by
     obtain ⟨cur,q1,_⟩:=id h4
     exact h4.same (hkk _ _ _ _ q1)
    refine ⟨h1,Nat.le_trans h2 hg.size,(hkk _ _ _ _ h3).trans h3,h4',h5.keep hg.os hg.tape hg.output hg.size (fun k hk=>hg.block k (Nat.lt_of_lt_of_le hk h5.bel.size) (fun e=>?_)) hkk⟩
    have:=(hr k e.symm).1;have:=LB.out;have:=Z5.out;omega)
   (fun c s A B row hs hg hr=>by
    have hkk:∀ (k:Nat) (cs:Array Value) (T:TypeId) (fr:Nat × Nat),A.heap[k]?=some (Obj.cells cs T fr)→B.heap[k]?=A.heap[k]?:=fun k cs T fr hk=>hg.block k (Array.getElem?_eq_some_iff.1 hk).1 (fun e=>by
     obtain ⟨_,o,ho,hc⟩:=hr k e.symm
     rw [hk] at ho
     cases ho
     cases hc)
    obtain ⟨h1,h2,k,h4,h5⟩:=hs
    refine ⟨h1,Nat.le_trans h2 hg.size,k,h4,h5.keep hg.os hg.tape hg.output hg.size (fun k hk=>hg.block k (Nat.lt_of_lt_of_le hk h5.bel.size) (fun e=>?_)) hkk⟩
    have:=(hr k e.symm).1;have:=LB.out;have:=Z5.out;omega)
   (fun s A B h e=>by rw [← e];exact h) (fun _ _ _=>trivial) (fun _ _ _ _ _=>trivial) ⟨Nat.zero_le _,Nat.le_refl _,X5.out,SR5.out,⟨B5.out,A25.out,A35.out⟩⟩
   (fun x a' W=>∃ (Bx:Nat) (st:StepM),w5.heap.size≤Bx∧W.heap[Bx]?=some (.cells (stC st).toArray 96 (0,0))∧pre[h - 1 - x]?=some st∧a'={ tmps:=((T0.setIfInBounds 34 (.int .i64 ((h - 1 - x:Nat):Int))).setIfInBounds 35 (.agg (stC st).toArray)).setIfInBounds 6 (.pointer (some ⟨Bx,0,none⟩)),defers:=[] })
   (fun x a' s A B row hs hg hr=>by
    obtain ⟨Bx,st,h0,h1,h2,h3⟩:=hs
    exact ⟨Bx,st,h0,(hg.block Bx (Array.getElem?_eq_some_iff.1 h1).1 (fun e=>by
     obtain ⟨_,o,ho,hc⟩:=hr Bx e.symm
     rw [h1] at ho
     cases ho
     cases hc)).trans h1,h2,h3⟩) ?assign ?body ?done ?stop
  case assign =>
   rintro l' ys x W K hl hlt rfl hK
   have HL:=Lib.hid hl
   clear hl
   obtain ⟨st',hst⟩:∃ st',pre[h - 1 - ys.length]?=some st':=⟨_,List.getElem?_eq_getElem (by rw [HLEN.out];omega)⟩
   have HK2:=Lib.hid hK
   clear hK
   subst hT0
   dsimp only [encB]
   rw [hst]
   simp only [Option.map_some,Option.getD_some]
   gi_wp2_with (refine inX_store_row rfl 96 (.tmp 6) (.tmp 35) rfl W.heap.size (stC st').toArray rfl rfl 96 _ (heap_alloc_new _ _) (by kernel_rfl) rfl (by simp [stC,Value.oneCell']) ?_)
   obtain ⟨W2,hW2⟩:∃ W2,W2=(W.alloc (.cells #[.int .i64 0,.bool false,.slice none 0 0,.slice none 0 0,.slice none 0 0,.int .i64 0] 96)).setRow W.heap.size (stC st').toArray:=⟨_,rfl⟩
   have BW:Below W.heap.size W W2:=by rw [hW2];exact below_setRow (alloc_bel rfl) (Nat.le_refl _) _
   have GW:W2.heap[W.heap.size]?=some (.cells (stC st').toArray 96 (0,0)):=by rw [hW2];exact setRow_heap _ _ _ _ _ _ (heap_alloc_new _ _)
   rw [← hW2]
   obtain ⟨hl1,hl2,hl3,hl4,hi⟩:=HL.out
   have hlb:=LB.out
   have hz5:=Z5.out
   refine HK2.out _ _ ⟨BW.size,fun k o _ ho _=>(BW.block k (Array.getElem?_eq_some_iff.1 ho).1).trans ho⟩ ⟨BW.block Bs (by omega),BW.block b (by omega)⟩ ⟨hl1,Nat.le_trans hl2 BW.size,row_stays hl3 BW,hl4.same (BW.block b (by omega)),hi.below BW⟩ ⟨W.heap.size,st',hl2,GW,hst,rfl⟩
  case body =>
   rintro l' ys x a' W hlW ⟨rr,hrr⟩ ⟨hl1,hl2,hl3,hl4,hi⟩ ⟨Bx,st,hBw,hBx,hst,rfl⟩ hlt rfl
   subst hT0
   simp only [List.setIfInBounds_toArray,List.set_cons_zero,List.set_cons_succ]
   obtain ⟨j,hj⟩:∃ j,j=ys.length:=⟨_,rfl⟩
   rw [← hj] at hst hlt hl1
   have hjl:h - 1 - j<h:=by omega
   have HIJ:=Lib.hid (fun k hk=>HIN.out (h - 1 - j) st k hjl hst hk)
   have hsz:=HSZ.out st (List.mem_of_getElem? hst)
   have HNW:=Lib.hid (((HND.out st (List.mem_of_getElem? hst)).below hi.bel).2.1)
   have HI:=Lib.hid hi
   have HL:=Lib.hid (And.intro hl1 (And.intro hl2 (And.intro hl3 hl4)))
   have HJ:=Lib.hid hj
   have HLT:=Lib.hid hlt
   obtain ⟨⟨sa,sn,sr⟩,sl⟩:=st
   dsimp only at hsz HIJ HNW
   obtain ⟨nk,hnk⟩:∃ nk,nk=sn.ks.length:=⟨_,rfl⟩
   have HNK:=Lib.hid hnk
   have c3:W.cell? ⟨Bx,3,none⟩=some (.slice sl.KA nk sl.kc):=by rw [hnk];exact nd_cell hBx 3 _ rfl
   have c5:W.cell? ⟨Bx,5,none⟩=some (.int .i64 (sr:Int)):=nd_cell hBx 5 _ rfl
   have HBX:=Lib.hid hBx
   rw [← hnk] at hsz
   obtain ⟨i1,hi1⟩:∃ i1,i1=sr+1:=⟨_,rfl⟩
   have hwi:wrap64 ((sr:Int)+1)=(i1:Int):=by rw [wrap_smallT (by omega) (by omega)];omega
   rw [← hi1] at HIJ
   clear hi1 hsz
   clear hnk hi hst hlt hl1 hl2 hl3 hl4 hBx hrr hlW hj hjl
   by_cases hkk:i1<nk
   ·have hkt:decide ((i1:Int)<(nk:Int))=true:=decide_eq_true (by omega)
    obtain ⟨k,hk⟩:∃ k,sn.ks[i1]?=some k:=⟨_,List.getElem?_eq_getElem (by rw [← HNK.out];exact hkk)⟩
    have HPK:=Lib.hid (HIJ.out k hk)
    obtain ⟨bk,ok,hKA,hck⟩:=KyAt.of_row HNW.out (by intro e;rw [e] at hk;cases hk)
    obtain ⟨e0,e1⟩:=hck i1 k hk
    rw [hKA] at c3
    clear hck hk hKA
    have R2:=HI.out.c2
    have N3:(W.setRow r2 #[.int .i64 k.se,.int .i64 k.st]).heap[r3]?=some (.cells #[.bool false] 4 (0,0)):=(setRow_other W r2 r3 _ (by have:=HR23.out;omega)).trans HI.out.c3
    have k3:(W.setRow r2 #[.int .i64 k.se,.int .i64 k.st]).cell? ⟨r3,0,none⟩=some (.bool false):=nd_cell N3 0 _ rfl
    have f3:(W.setRow r2 #[.int .i64 k.se,.int .i64 k.st]).frozen? ⟨r3,0,none⟩=false:=by simp [World.frozen?,N3]
    gi_wp2_with (refine inX_store_row rfl 38 (.tmp 2) (.tmp 51) rfl r2 #[.int .i64 k.se,.int .i64 k.st] rfl rfl 38 _ R2 (by kernel_rfl) rfl (by simp [Value.oneCell']) ?_)
    have q4:=BhI.set HR23.out HI.out k.se k.st true
    have hr:=HR23.out
    have hlb:=LB.out
    have hz5:=Z5.out
    obtain ⟨hl1,hl2,hl3,hl4⟩:=HL.out
    exact ⟨⟨by simp,fun j o hj ho _=>(BhI.oth _ _ (by omega) (by omega)).trans ho⟩,⟨BhI.oth _ _ (by omega) (by omega),BhI.oth _ _ (by omega) (by omega)⟩,rfl,by simpa using hl2,k,HPK.out,q4⟩
   ·have hkt:decide ((i1:Int)<(nk:Int))=false:=decide_eq_false (by omega)
    gi_wp2
    obtain ⟨hl1,hl2,hl3,hl4⟩:=HL.out
    have hlt:=HLT.out
    refine ⟨(KeepsOthers.refl _).from _,⟨rfl,rfl⟩,?_,hl2,hl3,hl4,HI.out⟩
    rw [List.length_append,← HJ.out,List.length_singleton]
    omega
  case done =>
   rintro D xs W hD rfl ⟨_,hl2,_,_,hi⟩ hK
   subst hT0
   have HI:=Lib.hid hi
   have HDD:=Lib.hid hD
   have HKD:=Lib.hid hK
   have HL2:=Lib.hid hl2
   have R2:=HI.out.c2
   have N3:(W.setRow r2 #[.int .i64 0,.int .i64 0]).heap[r3]?=some (.cells #[.bool false] 4 (0,0)):=(setRow_other W r2 r3 _ (by have:=HR23.out;omega)).trans HI.out.c3
   have k3:(W.setRow r2 #[.int .i64 0,.int .i64 0]).cell? ⟨r3,0,none⟩=some (.bool false):=nd_cell N3 0 _ rfl
   have f3:(W.setRow r2 #[.int .i64 0,.int .i64 0]).frozen? ⟨r3,0,none⟩=false:=by simp [World.frozen?,N3]
   clear hi hD hl2 hK
   go_wp2_with (refine wpList_store_row rfl 38 (.tmp 2) (.tmp 52) rfl r2 #[.int .i64 0,.int .i64 0] rfl rfl 38 _ R2 (by kernel_rfl) rfl (by simp [Value.oneCell']) ?_)
   have q4:=BhI.set HR23.out HI.out 0 0 false
   have hr:=HR23.out
   have hlb:=LB.out
   have hz5:=Z5.out
   have hdd:=HDD.out
   have hkd:=(BhI.oth (r2:=r2) (r3:=r3) (W:=W) #[.int .i64 0,.int .i64 0] (.bool false) (k:=D) (by omega) (by omega)).trans HKD.out
   refine ⟨by simp,.inl ⟨_,_,rfl,run_takeDeferred hkd,?_⟩⟩
   have q5:=q4.put (o':=.deferred none) hkd rfl (by omega)
   refine ⟨_,q5.res _ ?_ ?_,⟨⟨0,0⟩,false,rfl,fun h=>by cases h⟩,q5.bel⟩ <;> rfl
  case stop =>
   rintro D cd ys W hD hs ⟨rfl,hl2,k,hpk,hi⟩ hK
   subst hT0
   gi_wp2
   have hr:=HR23.out
   have hlb:=LB.out
   have hz5:=Z5.out
   refine ⟨by simp,.inl ⟨_,_,rfl,run_takeDeferred hK,?_⟩⟩
   have q5:=hi.put (o':=.deferred none) hK rfl (by omega)
   refine ⟨_,q5.res _ ?_ ?_,⟨k,true,rfl,fun _=>hpk⟩,q5.bel⟩ <;> rfl
end Go.Proofs.YtgkddhncfaeidaaGreat
