/- Take: the first so many entries, and how many nodes were read for them. -/
import Derived.Maps.OwnIn
import Derived.Test.YtgkddhncfaeidaaPart32
import Derived.Test.YtgkddhncfaeidaaPart10
set_option linter.unusedSimpArgs false
set_option linter.unusedVariables false
namespace Go.Proofs.Ytgkddhncfaeidaa
open Go.RowKit Go.Shelf CrcM PageM
set_option linter.unusedVariables false
attribute [local go_sem] Oper.semAt_some

/-! ### Loads and stores of rows at whatever fence -/
theorem inF_load_row {F : Fence} {n : Nat} {P : Program} {ops : Array Oper} {rest : List Oper} {op : Oper} {a : Act} {w : World} {Q : Exit → Act → World → Prop} (hgd : op.guard = none) (ty : TypeId) (x : Operand) (ho : op.op = .load ty x)
    (g : Nat) (hx : a.eval x = .pointer (some ⟨g, 0, none⟩)) (t : TypeId) (cs : Array Value) (fr : Nat × Nat) (d : TypeDesc) (hg : w.heap[g]? = some (.cells cs t fr))
    (hu : P.underlying ty = some d) (hd : (match d with | .struct _ | .array _ _ => true | _ => false) = true) (hi : (P.info? ty).map (·.size) = some cs.size)
    (h : wpListIn F n P ops Q rest (a.put op.dst (.agg cs)) w) : wpListIn F n P ops Q (op :: rest) a w :=
  wpListIn_plain hgd fun K hK => by
    unfold Oper.wpIn
    refine ⟨by simp [Oper.about, ho], ?_⟩
    rw [Oper.semAt_plain F _ _ (by rw [ho]; intro c hc'; cases hc')]
    unfold execOp
    simp only [ho, hx, Instr.loadAt, Instr.sureAddr, Sem.run_bind, Sem.run_pure, Result.andThen_ok, run_loadVar_row w g t ty cs fr d hg hu hd hi]
    exact hK _ _ h
theorem inF_store_row {F : Fence} {n : Nat} {P : Program} {ops : Array Oper} {rest : List Oper} {op : Oper} {a : Act} {w : World} {Q : Exit → Act → World → Prop} (hgd : op.guard = none) (ty : TypeId) (x y : Operand) (ho : op.op = .store ty x y)
    (g : Nat) (cells : Array Value) (hx : a.eval x = .pointer (some ⟨g, 0, none⟩)) (hy : a.eval y = .agg cells)
    (t : TypeId) (old : Array Value) (hg : w.heap[g]? = some (.cells old t (0, 0))) (hi : (P.info? ty).map (·.size) = some cells.size)
    (hold : old.size = cells.size) (h1 : cells.all (·.oneCell') = true)
    (h : wpListIn F n P ops Q rest (a.put op.dst undef) (w.setRow g cells)) : wpListIn F n P ops Q (op :: rest) a w :=
  wpListIn_plain hgd fun K hK => by
    unfold Oper.wpIn
    refine ⟨by simp [Oper.about, ho], ?_⟩
    rw [Oper.semAt_plain F _ _ (by rw [ho]; intro c hc'; cases hc')]
    unfold execOp
    simp only [ho, hx, hy, Instr.storeAt, Instr.sureAddr, Sem.run_bind, Sem.run_pure, Result.andThen_ok, run_storeVar_row w g t ty old cells hg hi hold h1]
    exact hK _ _ h

/-- What keeps whatever is cells, but lookers. -/
structure CK (n₀ : Nat) (A B : World) : Prop where
  bel : Below n₀ A B
  keep : ∀ (k : Nat) (cs : Array Value) (T : TypeId) (fr : Nat × Nat), A.heap[k]? = some (.cells cs T fr) → T ≠ 121 → B.heap[k]? = A.heap[k]?
theorem TL.ck {n₀ : Nat} {A B : World} (h : TL n₀ A B) : CK n₀ A B := ⟨h.bel, fun k cs T fr hk ht => (h.keep k _ hk (fun cs' fr' e => by cases e; exact ht rfl)).trans hk.symm⟩
theorem ck_grown {n₀ b : Nat} {A B : World} {row : Option Nat} (hg : A.grownBy B row) (hr : ∀ r, row = some r → b ≤ r ∧ ∃ o : Obj, A.heap[r]? = some o ∧ o.isCells = false) (hn : n₀ ≤ b) (hA : n₀ ≤ A.heap.size) : CK n₀ A B where
  bel := ⟨hg.os, hg.tape, hg.output, hg.size, fun k hk => hg.block k (by omega) (fun e => by have := (hr k e.symm).1; omega)⟩
  keep := fun k cs T fr hk _ => hg.block k (Array.getElem?_eq_some_iff.1 hk).1 (fun e => by
    obtain ⟨_, o, ho, hc⟩ := hr k e.symm
    rw [hk] at ho
    cases ho
    cases hc)
theorem ownFrom_ck {β : Type} {n₀ b : Nat} {I : β → World → Prop} (hn : n₀ ≤ b) (hsz : ∀ s A, I s A → n₀ ≤ A.heap.size) (h : ∀ s A B, I s A → CK n₀ A B → I s B) : OwnFrom b I := fun s A B row hs hg hr => h s A B hs (ck_grown hg hr hn (hsz s A hs))

set_option maxRecDepth 100000 in
theorem entries_mk (n gl : Nat) (a hh : Int) (w : World) :
    CallsIn Fence.wide n Try.prog 58 #[.pointer (some ⟨gl, 0, none⟩), .agg #[.int .i64 a, .int .i64 hh]] w fun e w' => e = .returned (.func (.func 82) #[] #[.pointer (some ⟨w.heap.size, 0, none⟩), .pointer (some ⟨w.heap.size + 1, 0, none⟩)]) ∧ w' = (w.alloc (.cells #[.pointer (some ⟨gl, 0, none⟩)] 152)).alloc (.cells #[.int .i64 a, .int .i64 hh] 63) := by
  refine callsIn_of_wp Try.func58 rfl trivial ?_ rfl
  simp only [Try.ntmps58, List.size_toArray, List.length_cons, List.length_nil, Nat.reduceAdd, Nat.reduceSub, Array.replicate_succ, Array.replicate_zero, List.push_toArray, List.append_toArray, List.nil_append, List.cons_append]
  gi_wp2
  go_ret
  exact ⟨rfl, rfl⟩
/-- Which blocks are Take's own: its row's box, and the row's block. -/
def ownTk (Bl : Nat) (W : World) (k : Nat) : Prop := k = Bl ∨ ∃ v, W.cell? ⟨Bl, 0, none⟩ = some v ∧ v.ownBlock = some k
theorem ownTk_same {Bl : Nat} {A B : World} (h : B.heap[Bl]? = A.heap[Bl]?) {k : Nat} (hk : ownTk Bl B k) : ownTk Bl A k := by
  rcases hk with hk | ⟨v, hv, ho⟩
  · exact .inl hk
  · exact .inr ⟨v, (World.cell?_of_block (a := ⟨Bl, 0, none⟩) h).symm.trans hv, ho⟩
theorem KpC.trans {n₀ : Nat} {C : World → Nat → Prop} {A B D : World} (h : KpC n₀ C A B) (k : KpC n₀ C B D) : KpC n₀ C A D := ⟨h.bel.trans k.bel, fun i cs T fr hi hc => by
    have h1 := h.keep i cs T fr hi hc
    refine (k.keep i cs T fr (h1.trans hi) (fun hb => ?_)).trans h1
    rcases h.own i hb with h2 | h2
    · exact hc h2
    · exact absurd (Array.getElem?_eq_some_iff.1 hi).1 (by omega), fun i hi => by
    rcases k.own i hi with h1 | h1
    · exact h.own i h1
    · exact .inr (Nat.le_trans h.bel.size h1)⟩
theorem kpTk_put {n₀ Bl b : Nat} (hB : Bl < b) (hn : n₀ ≤ b) (W : World) (l : Nat) (o o' : Obj) (hl : b ≤ l) (h : W.heap[l]? = some o) (hc : o.isCells = false) : KpC n₀ (ownTk Bl) W (W.putObj l o') where
  bel := ⟨rfl, rfl, rfl, by simp [World.putObj], fun k hk => World.putObj_heap_other (by omega)⟩
  keep := fun k cs T fr hk _ => World.putObj_heap_other (fun e => by
    subst e
    rw [hk] at h
    cases h
    cases hc)
  own := fun k hk => .inl (ownTk_same (World.putObj_heap_other (by omega)) hk)
theorem kpTk_below {n₀ Bl : Nat} {A B : World} (h : Below A.heap.size A B) (hn : n₀ ≤ A.heap.size) (hB : Bl < A.heap.size) : KpC n₀ (ownTk Bl) A B where
  bel := h.mono hn
  keep := fun k cs T fr hk _ => h.block k (Array.getElem?_eq_some_iff.1 hk).1
  own := fun k hk => .inl (ownTk_same (h.block _ hB) hk)
/-- Between two rounds of Take. -/
structure TkI (Bl : Nat) (w : World) (n : Nat) (pre : List EntD) (W : World) : Prop where
  bel : Below w.heap.size w W
  lst : ∃ v, Boxed W Bl 31 v ∧ W.ownsRow w.heap.size 77 8 v pre.length (pre.flatMap enC)
  c5 : W.heap[w.heap.size + 1]? = some (.cells #[.int .i64 (n : Int)] 3 (0, 0))
  c6 : W.heap[w.heap.size + 1 + 1]? = some (.cells #[.slice none 0 0] 31 (0, 0))
  c7 : W.heap[w.heap.size + 1 + 1 + 1]? = some (.cells #[.int .i64 0] 3 (0, 0))
  c8 : W.heap[w.heap.size + 1 + 1 + 1 + 1]? = some (.cells #[.int .i64 0] 28 (0, 0))
theorem TkI.ck {Bl n : Nat} {w A B : World} {pre : List EntD} (h : TkI Bl w n pre A) (k : CK w.heap.size A B) : TkI Bl w n pre B where
  bel := h.bel.trans k.bel
  lst := by
    obtain ⟨v, h1, h2⟩ := h.lst
    exact ⟨v, (k.keep _ _ _ _ h1 (by decide)).trans h1, row_keep h2 (fun i cur _ hc => k.keep _ _ _ _ hc (by decide))⟩
  c5 := (k.keep _ _ _ _ h.c5 (by decide)).trans h.c5
  c6 := (k.keep _ _ _ _ h.c6 (by decide)).trans h.c6
  c7 := (k.keep _ _ _ _ h.c7 (by decide)).trans h.c7
  c8 := (k.keep _ _ _ _ h.c8 (by decide)).trans h.c8
theorem TkI.ok {Bl n : Nat} {w A : World} {pre : List EntD} (h : TkI Bl w n pre A) : OkC w.heap.size (ownTk Bl) A := ⟨h.bel.size, fun k hk => by
  obtain ⟨v, h1, h2⟩ := h.lst
  rcases hk with rfl | ⟨u, hu, ho⟩
  · exact h1.lt
  · rw [h1.cell] at hu
    cases hu
    exact (World.ownsRow.lt h2 k ho).2⟩
theorem TkI.cc {Bl n : Nat} {w A B : World} {pre : List EntD} (h : TkI Bl w n pre A) (k : TL w.heap.size A B) : CcC (ownTk Bl) A B := fun i hi => by
  obtain ⟨v, h1, _⟩ := h.lst
  exact ownTk_same (k.ck.keep _ _ _ _ h1 (by decide)) hi
theorem lk_grown {gl gv c b : Nat} {A B : World} {row : Option Nat} (h : Lk A gl gv c) (hg : A.grownBy B row) (hr : ∀ r, row = some r → b ≤ r ∧ ∃ o : Obj, A.heap[r]? = some o ∧ o.isCells = false) : Lk B gl gv c := (hg.block gl (Array.getElem?_eq_some_iff.1 h).1 (fun e => by
  obtain ⟨_, o, ho, hc⟩ := hr gl e.symm
  unfold Lk at h
  rw [h] at ho
  cases ho
  cases hc)).trans h
theorem kpTk_app {n₀ Bl k m size : Nat} {t e : TypeId} {W w1 : World} {v v' : Value} {xs ys : List Value} {tmp : Obj} (hv : Boxed W Bl t v) (hte : t ≠ e) (hrow : W.ownsRow n₀ e size v k xs) (hn₀ : n₀ ≤ W.heap.size) (hB : n₀ ≤ Bl)
    (hown' : w1.ownsRow n₀ e size v' m ys) (hgrow : (W.alloc tmp).grownBy w1 v.ownBlock) (hblk : v'.ownBlock = v.ownBlock ∨ v'.ownBlock = some (W.alloc tmp).heap.size) : KpC n₀ (ownTk Bl) W (w1.setCell ⟨Bl, 0, none⟩ v') where
  bel := (hv.appended hte hrow hn₀ hB hown' hgrow).2.2.2.2
  keep := fun i cs T fr hi hc => by
    have h1 : i ≠ Bl := fun e => hc (.inl e)
    have h2 : some i ≠ v.ownBlock := fun e => hc (.inr ⟨v, hv.cell, e.symm⟩)
    have hlt := (Array.getElem?_eq_some_iff.1 hi).1
    have a1 := (grownBy_setCell' w1 Bl v').block i (by have := hgrow.size; rw [World.size_alloc] at this; omega) (fun e => h1 (by cases e; rfl))
    exact a1.trans ((hgrow.block i (by rw [World.size_alloc]; omega) h2).trans (Below.heap_alloc W tmp i hlt))
  own := fun i hi => by
    have h2 := (hv.appended hte hrow hn₀ hB hown' hgrow).2.1
    rcases hi with hi | ⟨u, hu, ho⟩
    · exact .inl (.inl hi)
    · rw [h2.cell] at hu
      cases hu
      rcases hblk with hb | hb
      · exact .inl (.inr ⟨v, hv.cell, hb.symm.trans ho⟩)
      · rw [hb, World.size_alloc] at ho
        cases ho
        exact .inr (Nat.le_succ _)
theorem infoEnt : (Try.prog.info? 77).map (fun i => (i.zero, i.size, i.bytes)) = some (some (.agg #[.int .i64 0, .int .i64 0, .int .i64 0, .int .i64 0, .int .i64 0, .int .i64 0, .int .i64 0, .int .u32 0]), 8, 64) := by kernel_rfl
theorem TkI.app {Bl n : Nat} {w W w1 : World} {pre : List EntD} {x : EntD} {v v' : Value} {tmp : Obj} (h : TkI Bl w n pre W) (hB : w.heap.size + 5 ≤ Bl) (hv : Boxed W Bl 31 v) (hrow : W.ownsRow w.heap.size 77 8 v pre.length (pre.flatMap enC))
    (hown' : w1.ownsRow w.heap.size 77 8 v' (pre.length + 1) (pre.flatMap enC ++ enC x)) (hgrow : (W.alloc tmp).grownBy w1 v.ownBlock) (hblk : v'.ownBlock = v.ownBlock ∨ v'.ownBlock = some (W.alloc tmp).heap.size) : TkI Bl w n (pre ++ [x]) (w1.setCell ⟨Bl, 0, none⟩ v') := by
  have hk := kpTk_app hv (by decide) hrow h.bel.size (by omega) hown' hgrow hblk
  obtain ⟨_, hv2, hr2, _, hb2⟩ := hv.appended (by decide) hrow h.bel.size (by omega) hown' hgrow
  have hno : ∀ (k : Nat) (t : TypeId) (u : Value), Boxed W k t u → t ≠ 77 → k ≠ Bl → ¬ ownTk Bl W k := fun k t u hb ht hne ho => by
    rcases ho with ho | ⟨u', hu, ho⟩
    · exact hne ho
    · rw [hv.cell] at hu
      cases hu
      exact hb.not_row ht hrow ho.symm
  exact ⟨h.bel.trans hb2, ⟨v', hv2, by rw [List.length_append, List.flatMap_append]; simpa using hr2⟩,
    (hk.keep _ _ _ _ h.c5 (hno _ _ _ h.c5 (by decide) (by omega))).trans h.c5, (hk.keep _ _ _ _ h.c6 (hno _ _ _ h.c6 (by decide) (by omega))).trans h.c6,
    (hk.keep _ _ _ _ h.c7 (hno _ _ _ h.c7 (by decide) (by omega))).trans h.c7, (hk.keep _ _ _ _ h.c8 (hno _ _ _ h.c8 (by decide) (by omega))).trans h.c8⟩
theorem enC_oneT (x : EntD) : ∀ u ∈ enC x, u.oneCell' = true := fun u hu => by
  simp only [enC, List.mem_cons, List.not_mem_nil, or_false] at hu
  rcases hu with rfl | rfl | rfl | rfl | rfl | rfl | rfl | rfl <;> rfl
theorem run_loadVar_one {P : Program} (w : World) (ty : TypeId) (a : Addr) (v : Value) (d : TypeDesc) (hu : P.underlying ty = some d) (hd : (match d with | .struct _ | .array _ _ => true | _ => false) = false) (hc : w.cell? a = some v) : (loadVar ty a).run P w = .ok v w := by
  have hagg : (isAgg ty).run P w = .ok false w := by
    unfold isAgg
    rw [Sem.run_bind, run_underlying hu w]
    cases d <;> simp_all
  unfold loadVar
  rw [Sem.run_bind, hagg]
  simp [go_sem, hc]
theorem results_cells3 {P : Program} {fn : Func} {p q r : Tmp} {t1 t2 t3 : TypeId} (h : fn.results = #[.cell p t1, .cell q t2, .cell r t3]) (tmps : Array Value) (w : World) (a1 a2 a3 : Addr) (v1 v2 v3 : Value)
    (h1 : tmps.getD p undef = .pointer (some a1)) (h2 : tmps.getD q undef = .pointer (some a2)) (h3 : tmps.getD r undef = .pointer (some a3)) (l1 : (loadVar t1 a1).run P w = .ok v1 w) (l2 : (loadVar t2 a2).run P w = .ok v2 w) (l3 : (loadVar t3 a3).run P w = .ok v3 w) :
    (results fn tmps).run P w = .ok (.tuple #[v1, v2, v3]) w := by
  have e1 : tmps[p]?.getD undef = .pointer (some a1) := by simpa using h1
  have e2 : tmps[q]?.getD undef = .pointer (some a2) := by simpa using h2
  have e3 : tmps[r]?.getD undef = .pointer (some a3) := by simpa using h3
  simp [results, h, e1, e2, e3, asAddr, l1, l2, l3]
theorem ck_below {n₀ : Nat} {A B : World} (h : Below A.heap.size A B) (hn : n₀ ≤ A.heap.size) : CK n₀ A B := ⟨h.mono hn, fun k cs T fr hk _ => h.block k (Array.getElem?_eq_some_iff.1 hk).1⟩
end Go.Proofs.Ytgkddhncfaeidaa
