/- Several texts in one: A range over an iterator that keeps state of its own in cells. No program is named here. What stays while a tree's entries are told; what beneath is to do. -/
import Derived.RangeFuncNested
import Derived.RangeFuncBound
import Derived.RangeFuncCalls
import Derived.RangeFuncLeaves
import Derived.RangeFuncBox
import Derived.Shelf.Abstract
import Derived.Test.YtgkddhncfaeidaaPart00
import Derived.Test.YtgkddhncfaeidaaTvNd
import Derived.Test.YtgkddhncfaeidaaPart28
import Derived.Test.YtgkddhncfaeidaaPart19
set_option linter.unusedSimpArgs false
set_option linter.unusedVariables false
namespace Go.Proofs.Ytgkddhncfaeidaa
open Go.RowKit
set_option linter.unusedVariables false

/-- An iterator whose own steps are T's; a round keeps Kp, whether it goes on or not; St holds where it begins. -/
def SeqT {α : Type} (F : Fence) (n : Nat) (P : Program) (g : Nat) (lb : Array Value) (encs : α → Array Value) (T Kp : World → World → Prop) (Ok : World → Prop) (Cc : World → World → Prop) (St : World → Prop) (S Sp : List α → World → Prop) (N : Nat) : Prop :=
  ∀ (l : Nat) (J Jx : List α → World → Prop) (W : World), St W → (∀ s A B, J s A → T A B → J s B) → (∀ s A, J s A → Ok A) → (∀ s A B, J s A → T A B → Cc A B) →
    (∀ pre x W1, J pre W1 → pre.length < N → YieldAt F (n - 1) P l (encs x) W1 fun e W' => (e = .returned (.bool true) ∧ J (pre ++ [x]) W' ∧ Kp W1 W') ∨ (e = .returned (.bool false) ∧ Jx (pre ++ [x]) W' ∧ Kp W1 W')) → J [] W →
    CallsIn F n P g (#[.func (.yield l) #[] #[]] ++ lb) W fun e W' => (∃ v, e = .returned v) ∧ ((∃ xs, S xs W' ∧ J xs W') ∨ (∃ pre, Sp pre W' ∧ Jx pre W'))

/-- What a body leaves behind one round. -/
def rdPost {α : Type} (B : Nat) (Kp : World → World → Prop) (I : List α → World → Prop) (Ix : Code → List α → World → Prop) (xs : List α) (W : World) : Exit → Act → World → Prop
  | .normal, _, W' => KeepsFrom B W W' ∧ Kp W W' ∧ I xs W'
  | .ret, _, W' => KeepsFrom B W W' ∧ Kp W W' ∧ Ix .ret xs W'
  | .exit id, _, W' => KeepsFrom B W W' ∧ Kp W W' ∧ Ix (.exit id) xs W'
  | .goto t, _, W' => KeepsFrom B W W' ∧ Kp W W' ∧ Ix (.goto t) xs W'
  | _, _, _ => False

theorem wpIn_rangeFunc_T {F : Fence} {n : Nat} {P : Program} {w : World} {α : Type} {g : Operand} {ps : Array Tmp} {assign body : Code} {Q : Exit → Act → World → Prop} {a : Act}
    (hro : F.round = none) (h1 : 1 ≤ n) {gf : Nat} {lb : Array Value} (hg : a.eval g = .func (.func gf) #[] lb) (hFg : F.fn gf) (eg : ∀ args w, (callFunc gf args).run P w = .ok (.enter gf args) w)
    {encs : α → Array Value} {T Kp : World → World → Prop} {Ok : World → Prop} {Cc : World → World → Prop} {St : World → Prop} {S Sp : List α → World → Prop} {N : Nat} (hseq : SeqT F (n - 1) P gf lb encs T Kp Ok Cc St S Sp N)
    (hT : ∀ (A B : World) (l : Nat) (o : Obj), w.heap.size ≤ l → A.heap[l]? = some o → o.isCells = false → T A B → B.heap[l]? = some o)
    (hKt : ∀ {A B C : World}, Kp A B → Kp B C → Kp A C) (hKb : ∀ (W : World) (l : Nat) (o o' : Obj), w.heap.size ≤ l → W.heap[l]? = some o → o.isCells = false → Kp W (W.putObj l o')) (hps : ∀ x, (encs x).size = ps.size)
    (hSt : ∀ W1, Below w.heap.size w W1 → W1.heap.size = w.heap.size + 2 → St W1)
    (hS : ∀ xs, OwnFrom w.heap.size (fun (_ : Unit) W => S xs W)) (hSp : ∀ xs, OwnFrom w.heap.size (fun (_ : Unit) W => Sp xs W))
    (I : List α → World → Prop) (Ix : Code → List α → World → Prop) (hI : OwnFrom w.heap.size I) (hIx : ∀ c, OwnFrom w.heap.size (Ix c)) (hIT : ∀ s A B, I s A → T A B → I s B) (hIO : ∀ s A, I s A → Ok A) (hIC : ∀ s A B, I s A → T A B → Cc A B) (h0 : I [] w) (Ax : α → Act → World → Prop) (hAx : ∀ x a', OwnFrom w.heap.size (fun (_ : Unit) W => Ax x a' W))
    (hassign : ∀ (l : Nat) (pre : List α) (x : α) (W : World) (K : Act → World → Prop), I pre W → (∀ a' W', KeepsFrom w.heap.size W W' → Kp W W' → I pre W' → Ax x a' W' → K a' W') →
      assign.wpIn (F.inRound l) (n - 1 - 1) P (Exit.then K (fun _ _ _ => False)) { tmps := (ps.zip (encs x)).foldl (fun t (p, v) => t.setIfInBounds p v) a.tmps, defers := [] } W)
    (hbody : ∀ (l : Nat) (pre : List α) (x : α) (a' : Act) (W : World), w.heap.size ≤ l → (∃ r, W.heap[l]? = some (.loop r)) → I pre W → Ax x a' W → pre.length < N → body.wpIn (F.inRound l) (n - 1 - 1) P (rdPost w.heap.size Kp I Ix (pre ++ [x]) W) a' W)
    (hdone : ∀ (D : Nat) (xs : List α) (W : World), w.heap.size ≤ D → S xs W → I xs W → W.heap[D]? = some (.deferred (some [])) → Q .normal { a with defers := { target := .collected D, args := #[] } :: a.defers } W)
    (hstop : ∀ (D : Nat) (c : Code) (pre : List α) (W : World), w.heap.size ≤ D → Sp pre W → Ix c pre W → W.heap[D]? = some (.deferred (some [])) → c.wpIn F n P Q { a with defers := { target := .collected D, args := #[] } :: a.defers } W) :
    (Code.rangeFunc g ps assign body).wpIn F n P Q a w := by
  refine wpIn_rangeFunc ?_
  intro fn hfn
  rw [hro]
  obtain ⟨rec, hrec⟩ : ∃ rec : LoopState → Option Code → Loop, rec = fun st pe => { state := st, pending := pe, fn, tmps := a.tmps, params := ps, assign, body, defers := w.heap.size } := ⟨_, rfl⟩
  obtain ⟨W1, hW1⟩ : ∃ W1, (w.alloc (.deferred (some []))).alloc (.loop (rec .ready none)) = W1 := ⟨_, rfl⟩
  have hL1 : W1.heap[w.heap.size + 1]? = some (.loop (rec .ready none)) := by
    rw [← hW1]; have := World.alloc_heap_new (w.alloc (.deferred (some []))) (.loop (rec .ready none)); rwa [World.size_alloc] at this
  have hK1 : W1.heap[w.heap.size]? = some (.deferred (some [])) := by
    rw [← hW1]; exact (Below.heap_alloc _ _ _ (by simp)).trans (World.alloc_heap_new w _)
  have hI1 : I [] W1 := by rw [← hW1]; exact hI.alloc _ (hI.alloc _ h0)
  have hb1 : Below w.heap.size w W1 := by rw [← hW1]; exact ((Below.refl _ w).alloc (Nat.le_refl _) _).alloc (by simp) _
  have hz1 : W1.heap.size = w.heap.size + 2 := by rw [← hW1]; simp
  refine ⟨w.heap.size + 1, [{ target := .collected w.heap.size, args := #[] }], W1, { target := .fn (.func gf) lb, args := #[.func (.yield (w.heap.size + 1)) #[] #[]] }, W1, gf,
    #[.func (.yield (w.heap.size + 1)) #[] #[]] ++ lb, W1, ?_, ?_, ?_, ?_, fun _ => h1, ?_⟩
  · rw [← hW1, hrec]; exact run_enterLoop_outer _ _ _ _ _
  · simp only [resolve, hg]
    simp [go_sem]
  · intro f' hf'; simp [Target.leads] at hf'; subst hf'; exact hFg
  · simp [invoke, go_sem, eg]
  · refine (hseq (w.heap.size + 1)
      (fun pre W => I pre W ∧ W.heap[w.heap.size + 1]? = some (.loop (rec .ready none)) ∧ W.heap[w.heap.size]? = some (.deferred (some [])))
      (fun pre W => ∃ c, Ix c pre W ∧ W.heap[w.heap.size + 1]? = some (.loop (rec .done (some c))) ∧ W.heap[w.heap.size]? = some (.deferred (some [])))
      W1 (hSt W1 hb1 hz1)
      (fun s A B hs hAB => ⟨hIT s A B hs.1 hAB, hT A B _ _ (by omega) hs.2.1 rfl hAB, hT A B _ _ (Nat.le_refl _) hs.2.2 rfl hAB⟩) (fun s A hs => hIO s A hs.1) (fun s A B hs hAB => hIC s A B hs.1 hAB)
      ?_ ⟨hI1, hL1, hK1⟩).mono ?_
    · rintro pre x W ⟨hi, hl, hk⟩ hlen
      have hlt : w.heap.size + 1 < W.heap.size := (Array.getElem?_eq_some_iff.1 hl).1
      have hy := run_yield (P := P) (args := encs x) hl (by rw [hrec]; exact hps x)
      rw [hrec] at hy
      refine ⟨fn, _, assign, body, hy, roundIn_of_wpIn hfn (hassign _ pre x W _ hi ?_)⟩
      clear hy
      intro a' Wa hkfa hkpa hia hax
      replace hl := hkfa.same _ _ (by omega) hl rfl
      replace hk := hkfa.same _ _ (Nat.le_refl _) hk rfl
      have hlt2 : w.heap.size + 1 < Wa.heap.size := (Array.getElem?_eq_some_iff.1 hl).1
      refine ⟨_, run_beginRound hl (by rw [hrec]), ?_⟩
      obtain ⟨Wb, hWb⟩ : ∃ Wb, Wb = Wa.putObj (w.heap.size + 1) (.loop { rec .ready none with state := .busy }) := ⟨_, rfl⟩
      have hl2 : Wb.heap[w.heap.size + 1]? = some (.loop { rec .ready none with state := .busy }) := by rw [hWb]; exact World.putObj_heap_same hlt2
      have hk2 : Wb.heap[w.heap.size]? = some (.deferred (some [])) := by rw [hWb]; exact (World.putObj_heap_other (by omega)).trans hk
      have hw2 : Kp W Wb := hKt hkpa (by rw [hWb]; exact hKb _ _ _ _ (by omega) hl rfl)
      have hi2 : I pre Wb := by rw [hWb]; exact hI.putObj _ hia (by omega) hl rfl
      have ha2 : Ax x a' Wb := by rw [hWb]; exact (hAx x a').putObj (s := ()) _ hax (by omega) hl rfl
      rw [← hWb]
      refine wpIn_mono (hbody _ pre x a' Wb (by omega) ⟨_, hl2⟩ hi2 ha2 hlen) ?_
      have fin : ∀ (jump : Option Code) (W3 : World), KeepsFrom w.heap.size Wb W3 → Kp Wb W3 →
          (Instr.endRound (w.heap.size + 1) jump).run P W3 = .ok (.bool jump.isNone) (W3.putObj (w.heap.size + 1) (.loop (rec (if jump.isNone then .ready else .done) jump))) ∧
          (W3.putObj (w.heap.size + 1) (.loop (rec (if jump.isNone then .ready else .done) jump))).heap[w.heap.size + 1]? = some (.loop (rec (if jump.isNone then .ready else .done) jump)) ∧
          (W3.putObj (w.heap.size + 1) (.loop (rec (if jump.isNone then .ready else .done) jump))).heap[w.heap.size]? = some (.deferred (some [])) ∧
          W3.heap[w.heap.size + 1]? = some (.loop { rec .ready none with state := .busy }) ∧
          Kp W (W3.putObj (w.heap.size + 1) (.loop (rec (if jump.isNone then .ready else .done) jump))) := fun jump W3 hk3 hp3 => by
        have hl3 := hk3.same _ _ (by omega) hl2 rfl
        have hr := run_endRound (P := P) jump hl3
        rw [hrec] at hr ⊢
        refine ⟨hr, World.putObj_heap_same (Array.getElem?_eq_some_iff.1 hl3).1, (World.putObj_heap_other (by omega)).trans (hk3.same _ _ (Nat.le_refl _) hk2 rfl), by rw [hrec] at hl3; exact hl3, hKt hw2 (hKt hp3 (hKb _ _ _ _ (by omega) hl3 rfl))⟩
      rintro e a3 W3 hp
      cases e with
      | normal =>
        obtain ⟨hk3, hp3, hi3⟩ := hp
        obtain ⟨hr, hl4, hk4, hl3, hkk⟩ := fin none W3 hk3 hp3
        exact ⟨_, _, hr, .inl ⟨rfl, ⟨hI.putObj _ hi3 (by omega) hl3 rfl, hl4, hk4⟩, hkk⟩⟩
      | ret =>
        obtain ⟨hk3, hp3, hi3⟩ := hp
        obtain ⟨hr, hl4, hk4, hl3, hkk⟩ := fin (some .ret) W3 hk3 hp3
        exact ⟨_, _, hr, .inr ⟨rfl, ⟨.ret, (hIx _).putObj _ hi3 (by omega) hl3 rfl, hl4, hk4⟩, hkk⟩⟩
      | exit id =>
        obtain ⟨hk3, hp3, hi3⟩ := hp
        obtain ⟨hr, hl4, hk4, hl3, hkk⟩ := fin (some (.exit id)) W3 hk3 hp3
        exact ⟨_, _, hr, .inr ⟨rfl, ⟨.exit id, (hIx _).putObj _ hi3 (by omega) hl3 rfl, hl4, hk4⟩, hkk⟩⟩
      | goto t =>
        obtain ⟨hk3, hp3, hi3⟩ := hp
        obtain ⟨hr, hl4, hk4, hl3, hkk⟩ := fin (some (.goto t)) W3 hk3 hp3
        exact ⟨_, _, hr, .inr ⟨rfl, ⟨.goto t, (hIx _).putObj _ hi3 (by omega) hl3 rfl, hl4, hk4⟩, hkk⟩⟩
      | panic ch => exact hp.elim
      | outgrown => exact hp.elim
    · rintro e W2 ⟨⟨v, rfl⟩, (⟨xs, hs, hi, hl, hk⟩ | ⟨pre, hs, c, hi, hl, hk⟩)⟩
      · exact ⟨none, _, by have := run_endLoop (P := P) hl (by rw [hrec]; simp); rw [hrec] at this; exact this, hdone _ xs _ (Nat.le_refl _) ((hS xs).putObj (s := ()) _ hs (by omega) hl rfl) (hI.putObj _ hi (by omega) hl rfl) ((World.putObj_heap_other (by omega)).trans hk)⟩
      · exact ⟨some c, _, by have := run_endLoop (P := P) hl (by rw [hrec]; simp); rw [hrec] at this; exact this, hstop _ c pre _ (Nat.le_refl _) ((hSp pre).putObj (s := ()) _ hs (by omega) hl rfl) ((hIx c).putObj _ hi (by omega) hl rfl) ((World.putObj_heap_other (by omega)).trans hk)⟩
end Go.Proofs.Ytgkddhncfaeidaa

namespace Go.Proofs.Ytgkddhncfaeidaa
open Go.RowKit Go.Shelf CrcM PageM
set_option linter.unusedVariables false
attribute [local go_sem] Oper.semAt_some

/-! ### Loads and stores of rows at the wide fence -/
theorem wideIn_value {n : Nat} {P : Program} {op : Oper} {a : Act} {w w' : World} {v : Value} {K : Act → World → Prop} {Q : Exit → Act → World → Prop} (hrun : (execOp a.eval op).run P w = .ok (.value v) w') (h : K (a.put op.dst v) w') : op.wpIn Fence.wide n P a w K Q := by
  refine ⟨fun _ _ => trivial, ?_⟩
  show op.uponIn Fence.wide n P a K Q ((execOp a.eval op).run P w)
  rw [hrun]
  exact h
theorem wideIn_load_mid {n : Nat} {P : Program} {ops : Array Oper} {rest : List Oper} {op : Oper} {a : Act} {w : World} {Q : Exit → Act → World → Prop} (hgd : op.guard = none) (ty : TypeId) (x : Operand) (ho : op.op = .load ty x)
    (b o : Nat) (hx : a.eval x = .pointer (some ⟨b, o, none⟩)) (cs : List Value) (d : TypeDesc) (hc : w.rangeAt b o cs) (hu : P.underlying ty = some d) (hd : d.isRow = true) (hi : (P.info? ty).map (·.size) = some cs.length)
    (h : wpListIn Fence.wide n P ops Q rest (a.put op.dst (.agg cs.toArray)) w) : wpListIn Fence.wide n P ops Q (op :: rest) a w :=
  wpListIn_plain hgd fun K hK => wideIn_value (v := .agg cs.toArray) (w' := w) (by
    unfold execOp
    simp only [ho, hx, Instr.loadAt, Instr.sureAddr, Sem.run_bind, Sem.run_pure, Result.andThen_ok, run_loadVar_mid w b o ty cs d hc hu hd hi]) (hK _ _ h)
theorem wideIn_skip {n : Nat} {P : Program} {op : Oper} {a : Act} {w w' : World} {K : Act → World → Prop} {Q : Exit → Act → World → Prop} (hrun : (execOp a.eval op).run P w = .ok .skip w') (h : K (a.put op.dst undef) w') : op.wpIn Fence.wide n P a w K Q := by
  refine ⟨fun _ _ => trivial, ?_⟩
  show op.uponIn Fence.wide n P a K Q ((execOp a.eval op).run P w)
  rw [hrun]
  exact h
theorem wideIn_load_row {n : Nat} {P : Program} {ops : Array Oper} {rest : List Oper} {op : Oper} {a : Act} {w : World} {Q : Exit → Act → World → Prop} (hgd : op.guard = none) (ty : TypeId) (x : Operand) (ho : op.op = .load ty x)
    (g : Nat) (hx : a.eval x = .pointer (some ⟨g, 0, none⟩)) (t : TypeId) (cs : Array Value) (fr : Nat × Nat) (d : TypeDesc) (hg : w.heap[g]? = some (.cells cs t fr))
    (hu : P.underlying ty = some d) (hd : (match d with | .struct _ | .array _ _ => true | _ => false) = true) (hi : (P.info? ty).map (·.size) = some cs.size)
    (h : wpListIn Fence.wide n P ops Q rest (a.put op.dst (.agg cs)) w) : wpListIn Fence.wide n P ops Q (op :: rest) a w :=
  wpListIn_plain hgd fun K hK => wideIn_value (v := .agg cs) (w' := w) (by
    unfold execOp
    simp only [ho, hx, Instr.loadAt, Instr.sureAddr, Sem.run_bind, Sem.run_pure, Result.andThen_ok, run_loadVar_row w g t ty cs fr d hg hu hd hi]) (hK _ _ h)
theorem wideIn_store_row {n : Nat} {P : Program} {ops : Array Oper} {rest : List Oper} {op : Oper} {a : Act} {w : World} {Q : Exit → Act → World → Prop} (hgd : op.guard = none) (ty : TypeId) (x y : Operand) (ho : op.op = .store ty x y)
    (g : Nat) (cells : Array Value) (hx : a.eval x = .pointer (some ⟨g, 0, none⟩)) (hy : a.eval y = .agg cells)
    (t : TypeId) (old : Array Value) (hg : w.heap[g]? = some (.cells old t (0, 0))) (hi : (P.info? ty).map (·.size) = some cells.size)
    (hold : old.size = cells.size) (h1 : cells.all (·.oneCell') = true)
    (h : wpListIn Fence.wide n P ops Q rest (a.put op.dst undef) (w.setRow g cells)) : wpListIn Fence.wide n P ops Q (op :: rest) a w :=
  wpListIn_plain hgd fun K hK => wideIn_skip (w' := w.setRow g cells) (by
    unfold execOp
    simp only [ho, hx, hy, Instr.storeAt, Instr.sureAddr, Sem.run_bind, Sem.run_pure, Result.andThen_ok, run_storeVar_row w g t ty old cells hg hi hold h1]) (hK _ _ h)
/-- What a page's node is. -/
def rdP (nw : List UInt8) (Ls : Nat) (a : Nat) (n : NodeD) : Prop := okNode n ∧ inNode n ∧ 256 * a + 256 ≤ Ls ∧ ∃ gg, gg < 18446744073709551616 ∧ pageOf nw a = putP ⟨kindB n.leaf, (a : Int), gg, nodeB n⟩
/-- A looker's block. -/
def Lk (W : World) (gl gv c : Nat) : Prop := W.heap[gl]? = some (.cells #[.pointer (some ⟨gv, 0, none⟩), .int .i64 (c : Int)] 121 (0, 0))
/-- The iterator's own steps. -/
structure TL (n₀ : Nat) (A B : World) : Prop where
  bel : Below n₀ A B
  keep : ∀ (k : Nat) (o : Obj), A.heap[k]? = some o → (∀ (cs : Array Value) (fr : Nat × Nat), o ≠ Obj.cells cs 121 fr) → B.heap[k]? = some o
/-- What a round keeps: but what C says is the caller's. -/
structure KpC (n₀ : Nat) (C : World → Nat → Prop) (A B : World) : Prop where
  bel : Below n₀ A B
  keep : ∀ (k : Nat) (cs : Array Value) (T : TypeId) (fr : Nat × Nat), A.heap[k]? = some (.cells cs T fr) → ¬ C A k → B.heap[k]? = A.heap[k]?
  own : ∀ k, C B k → C A k ∨ A.heap.size ≤ k
/-- My own steps, gl being my looker. -/
structure TG (n₀ gl : Nat) (A B : World) : Prop where
  bel : Below n₀ A B
  keep : ∀ k, k < A.heap.size → k ≠ gl → B.heap[k]? = A.heap[k]?
/-- Both. -/
structure Rr (n₀ gl : Nat) (C : World → Nat → Prop) (A B : World) : Prop where
  bel : Below n₀ A B
  keep : ∀ (k : Nat) (cs : Array Value) (T : TypeId) (fr : Nat × Nat), A.heap[k]? = some (.cells cs T fr) → ¬ C A k → k ≠ gl → B.heap[k]? = A.heap[k]?
  own : ∀ k, C B k → C A k ∨ A.heap.size ≤ k
section
variable {n₀ gl gv c : Nat} {C : World → Nat → Prop} {A B D : World}
theorem TG.of_below (h : Below A.heap.size A B) (hn : n₀ ≤ A.heap.size) : TG n₀ gl A B := ⟨h.mono hn, fun k hk _ => h.block k hk⟩
theorem TG.tl (h : TG n₀ gl A B) (hl : Lk A gl gv c) : TL n₀ A B := ⟨h.bel, fun k o hk hn => by
  refine (h.keep k (Array.getElem?_eq_some_iff.1 hk).1 (fun e => ?_)).trans hk
  subst e
  unfold Lk at hl
  rw [hl] at hk
  cases hk
  exact hn _ _ rfl⟩
theorem KpC.rr (h : KpC n₀ C A B) : Rr n₀ gl C A B := ⟨h.bel, fun k cs T fr hk hc _ => h.keep k cs T fr hk hc, h.own⟩
theorem TG.rr (h : TG n₀ gl A B) (hc : ∀ k, C B k → C A k) : Rr n₀ gl C A B := ⟨h.bel, fun k cs T fr hk _ ht => h.keep k (Array.getElem?_eq_some_iff.1 hk).1 ht, fun k hk => .inl (hc k hk)⟩
theorem Rr.trans (h : Rr n₀ gl C A B) (k : Rr n₀ gl C B D) : Rr n₀ gl C A D := ⟨h.bel.trans k.bel, fun i cs T fr hi hc ht => by
    have h1 := h.keep i cs T fr hi hc ht
    refine (k.keep i cs T fr (h1.trans hi) (fun hb => ?_) ht).trans h1
    rcases h.own i hb with h2 | h2
    · exact hc h2
    · exact absurd (Array.getElem?_eq_some_iff.1 hi).1 (by omega), fun i hi => by
    rcases k.own i hi with h1 | h1
    · exact h.own i h1
    · exact .inr (Nat.le_trans h.bel.size h1)⟩
theorem Rr.refl (n₀ gl : Nat) (C : World → Nat → Prop) (A : World) : Rr n₀ gl C A A := ⟨Below.refl _ _, fun _ _ _ _ _ _ _ => rfl, fun _ h => .inl h⟩
theorem not_rr {k : Nat} (h : ¬ C A k) (hk : k < A.heap.size) (r : Rr n₀ gl C A B) : ¬ C B k := fun hb => by
  rcases r.own k hb with h1 | h1
  · exact h h1
  · omega
/-- A block of mine. -/
structure Mine (gl : Nat) (C : World → Nat → Prop) (W : World) (k : Nat) (cs : Array Value) (T : TypeId) (fr : Nat × Nat) : Prop where
  blk : W.heap[k]? = some (.cells cs T fr)
  not : ¬ C W k
  ne : k ≠ gl
theorem Mine.rr {k : Nat} {cs : Array Value} {T : TypeId} {fr : Nat × Nat} (h : Mine gl C A k cs T fr) (r : Rr n₀ gl C A B) : Mine gl C B k cs T fr where
  blk := (r.keep k cs T _ h.blk h.not h.ne).trans h.blk
  not := not_rr h.not (Array.getElem?_eq_some_iff.1 h.blk).1 r
  ne := h.ne
/-- A row of mine: its block, whatever it is. -/
def MineR (gl : Nat) (C : World → Nat → Prop) (W : World) (A : Option Addr) : Prop := ∀ b off, A = some ⟨b, off, none⟩ → ∃ cs T fr, Mine gl C W b cs T fr
theorem MineR.rr {R : Option Addr} (h : MineR gl C A R) (r : Rr n₀ gl C A B) : MineR gl C B R := fun b off e => by
  obtain ⟨cs, T, fr, hm⟩ := h b off e
  exact ⟨cs, T, fr, hm.rr r⟩
theorem mine_cell {R : Option Addr} {b off o : Nat} {v : Value} (h : MineR gl C A R) (e : R = some ⟨b, off, none⟩) (r : Rr n₀ gl C A B) (hc : A.cell? ⟨b, o, none⟩ = some v) : B.cell? ⟨b, o, none⟩ = some v := by
  obtain ⟨cs, T, fr, hm⟩ := h b off e
  exact (World.cell?_of_block (a := ⟨b, o, none⟩) ((hm.rr r).blk.trans hm.blk.symm)).trans hc
theorem enAt_rr {R : Option Addr} {es : List EntD} (h : MineR gl C A R) (r : Rr n₀ gl C A B) (he : EnAt A R es) : EnAt B R es := fun hne => by
  obtain ⟨b, off, e, hc⟩ := he hne
  refine ⟨b, off, e, fun i x hx => ?_⟩
  obtain ⟨k0, k1, k2, k3, k4, k5, k6, k7⟩ := hc i x hx
  exact ⟨mine_cell h e r k0, mine_cell h e r k1, mine_cell h e r k2, mine_cell h e r k3, mine_cell h e r k4, mine_cell h e r k5, mine_cell h e r k6, mine_cell h e r k7⟩
theorem kdAt_rr {R : Option Addr} {zs : List Int} (h : MineR gl C A R) (r : Rr n₀ gl C A B) (he : KdAt A R zs) : KdAt B R zs := fun hne => by
  obtain ⟨b, off, e, hc⟩ := he hne
  exact ⟨b, off, e, fun i x hx => mine_cell h e r (hc i x hx)⟩
theorem ent_range {w : World} {b o : Nat} {e : EntD} (h : entAt w b o e) : w.rangeAt b o (enC e) := fun j v hv => by
  obtain ⟨k0, k1, k2, k3, k4, k5, k6, k7⟩ := h
  match j, hv with
  | 0, hv => cases hv; exact k0
  | 1, hv => cases hv; exact k1
  | 2, hv => cases hv; exact k2
  | 3, hv => cases hv; exact k3
  | 4, hv => cases hv; exact k4
  | 5, hv => cases hv; exact k5
  | 6, hv => cases hv; exact k6
  | 7, hv => cases hv; exact k7
  | j + 8, hv => cases hv
end

section
variable (l gl gv n₀ NN : Nat) (C : World → Nat → Prop) (J Jx : List EntD → World → Prop) (w0 : World)
/-- What beneath leaves. -/
def BeR (h : Nat) (es : List EntD) (pre : List EntD) (W : World) (c : Nat) (e : Ending) (W' : World) : Prop :=
  (e = .returned (.bool true) ∧ J (pre ++ es) W' ∧ Rr n₀ gl C W W' ∧ Lk W' gl gv (c + ND h es.length)) ∨
  (e = .returned (.bool false) ∧ ∃ q r, es = q ++ r ∧ q ≠ [] ∧ Jx (pre ++ q) W' ∧ Rr n₀ gl C W W' ∧ Lk W' gl gv (c + ND h q.length))
def BeC (h a : Nat) (es : List EntD) : Prop := ∀ (m : Nat) (pre : List EntD) (W : World) (c : Nat), J pre W → Below w0.heap.size w0 W → Lk W gl gv c → ¬ C W gl → pre.length + es.length ≤ NN → c + ND h es.length ≤ 1000000 →
  CallsIn Fence.wide m Try.prog 83 #[.pointer (some ⟨gl, 0, none⟩), .agg #[.int .i64 (a : Int), .int .i64 ((h + 1 : Nat) : Int)], .func (.yield l) #[] #[]] W (BeR gl gv n₀ C J Jx h es pre W c)
end

theorem ND_mono : ∀ (h : Nat) {a b : Nat}, a ≤ b → ND h a ≤ ND h b
  | 0, a, b, hab => by rw [ND, ND]; exact Nat.div_le_div_right (by omega)
  | h + 1, a, b, hab => by rw [ND, ND]; exact Nat.add_le_add (ND_mono h hab) (Nat.div_le_div_right (by omega))
theorem parts_len {c k : Nat} {parts : List (Nat × (NodeD × List EntD))} (h : fullB c (parts.map fun x => x.2.2.length)) (hk : k < parts.length) : ((parts.take k).flatMap fun x => x.2.2).length = k * c := by
  rw [List.length_flatMap, sum_eq (c := c) ?_, List.length_map, List.length_take, Nat.min_eq_left (by omega)]
  intro y hy
  obtain ⟨i, hi, rfl⟩ := List.getElem_of_mem hy
  rw [List.length_map, List.length_take] at hi
  rw [List.getElem_map, List.getElem_take]
  have h1 := h.1 i (by rw [List.length_map]; omega)
  rw [List.getElem?_map, List.getElem?_eq_getElem (by omega)] at h1
  simpa using h1
theorem cnt_part {g k q : Nat} {x : Nat × (NodeD × List EntD)} {parts : List (Nat × (NodeD × List EntD))} (h : fullB (capH g) (parts.map fun x => x.2.2.length)) (hp : parts.length ≤ 16) (hx : parts[k]? = some x) (h1 : 1 ≤ q) (h2 : q ≤ x.2.2.length) :
    1 + k * ND g (capH g) + ND g q = ND (g + 1) (((parts.take k).flatMap fun x => x.2.2).length + q) := by
  have hk := (List.getElem?_eq_some_iff.1 hx).1
  have h3 := (h.2 x.2.2.length (List.mem_map.2 ⟨x, List.mem_of_getElem? hx, rfl⟩)).2
  rw [parts_len h hk, ND_full g k q h1 (by omega) (by omega)]
theorem part_full {c k : Nat} {x : Nat × (NodeD × List EntD)} {parts : List (Nat × (NodeD × List EntD))} (h : fullB c (parts.map fun x => x.2.2.length)) (hx : parts[k]? = some x) (hk : k + 1 < parts.length) : x.2.2.length = c := by
  have h1 := h.1 k (by rw [List.length_map]; exact hk)
  rw [List.getElem?_map, hx] at h1
  simpa using h1
theorem part_one {c k : Nat} {x : Nat × (NodeD × List EntD)} {parts : List (Nat × (NodeD × List EntD))} (h : fullB c (parts.map fun x => x.2.2.length)) (hx : parts[k]? = some x) : 1 ≤ x.2.2.length := (h.2 _ (List.mem_map.2 ⟨x, List.mem_of_getElem? hx, rfl⟩)).1
theorem flat_snoc {k : Nat} {x : Nat × (NodeD × List EntD)} {parts : List (Nat × (NodeD × List EntD))} (hx : parts[k]? = some x) : ((parts.take (k + 1)).flatMap fun x => x.2.2) = ((parts.take k).flatMap fun x => x.2.2) ++ x.2.2 := by
  rw [take_snoc hx, List.flatMap_append]
  simp
theorem flat_rest {k : Nat} {x : Nat × (NodeD × List EntD)} {parts : List (Nat × (NodeD × List EntD))} (hx : parts[k]? = some x) : (parts.flatMap fun x => x.2.2) = ((parts.take k).flatMap fun x => x.2.2) ++ (x.2.2 ++ (parts.drop (k + 1)).flatMap fun x => x.2.2) := by
  have h1 : parts = parts.take (k + 1) ++ parts.drop (k + 1) := (List.take_append_drop _ _).symm
  have h2 := congrArg (fun l => l.flatMap fun x => x.2.2) h1
  rw [List.flatMap_append, flat_snoc hx, List.append_assoc] at h2
  exact h2
theorem meas_nat {n k : Nat} {z : Int} (h : k < n) (hz : z = ((k + 1 : Nat) : Int)) : n - (intOf (Value.int .i64 z)).toNat < n - (intOf (Value.int .i64 (k : Int))).toNat := by
  subst hz
  simp only [intOf]
  omega
end Go.Proofs.Ytgkddhncfaeidaa
