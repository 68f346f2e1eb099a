/- Slices of one-cell elements that a call owns, nil among them: append, read, store. No program is named here. -/
import Derived.Test.YtgkddhncfaeidaaOwnS
namespace Go.Proofs.Ytgkddhncfaeidaa
open Go.RowKit

/-- The slice value over A reads as these cells. -/
def CellsAt (w : World) (A : Option Addr) (us : List Value) : Prop :=
  us ≠ [] → ∃ b off, A = some ⟨b, off, none⟩ ∧ ∀ k (h : k < us.length), w.cell? ⟨b, off + k, none⟩ = some us[k]

/-- The slice v, from block base on, is these elements and is owned. -/
def OwnV (w : World) (base : Nat) (v : Value) (E : TypeId) (us : List Value) : Prop := w.ownsRow base E 1 v us.length us

section
variable {w w' : World} {base : Nat} {v : Value} {E : TypeId} {us vs : List Value}

theorem CellsAt.nil (w : World) (A : Option Addr) : CellsAt w A [] := fun h => absurd rfl h
theorem CellsAt.below {A : Option Addr} (h : CellsAt w A us) (hb : Below w.heap.size w w') : CellsAt w' A us := fun hx => by
  obtain ⟨b, off, ha, hc⟩ := h hx
  exact ⟨b, off, ha, fun k hk => (hb.cell (p := ⟨b, off + k, none⟩) (World.block_lt_of_cell? w _ (hc k hk))).trans (hc k hk)⟩
theorem CellsAt.take {A : Option Addr} (h : CellsAt w A us) (n : Nat) : CellsAt w A (us.take n) := fun hne => by
  obtain ⟨b, off, ha, hc⟩ := h (by intro h0; subst h0; simp at hne)
  refine ⟨b, off, ha, fun k hk => ?_⟩
  have hk' : k < us.length := by simp at hk; omega
  rw [hc k hk']
  simp
theorem CellsAt.cut {A : Option Addr} (h : CellsAt w A us) (k : Nat) (A' : Option Addr) (hA : k < us.length → A' = A.map (·.add k)) : CellsAt w A' (us.drop k) := fun hne => by
  have hk0 : k < us.length := by
    rcases Nat.lt_or_ge k us.length with h | h
    · exact h
    · exact absurd (List.drop_eq_nil_of_le h) hne
  obtain ⟨b, off, ha, hc⟩ := h (by intro h0; subst h0; simp at hk0)
  have hadd : (⟨b, off, none⟩ : Addr).add k = ⟨b, off + k, none⟩ := by unfold Addr.add; split <;> simp_all
  refine ⟨b, off + k, by rw [hA hk0, ha, Option.map_some, hadd], fun i hi => ?_⟩
  have hi' : k + i < us.length := by simp at hi; omega
  rw [Nat.add_assoc, hc (k + i) hi']
  simp
theorem CellsAt.cells {A : Option Addr} (h : CellsAt w A us) (hy : us ≠ []) : ∃ ad, A = some ad ∧ ∀ j u, us[j]? = some u → w.cell? (ad.add j) = some u := by
  obtain ⟨b, off, ha, hc⟩ := h hy
  refine ⟨⟨b, off, none⟩, ha, fun j u hu => ?_⟩
  obtain ⟨hj, e⟩ := List.getElem?_eq_some_iff.1 hu
  have hadd : (⟨b, off, none⟩ : Addr).add j = ⟨b, off + j, none⟩ := by unfold Addr.add; split <;> simp_all
  rw [hadd, hc j hj, e]
theorem cellsAt_block {g : Nat} {t : TypeId} {fr : Nat × Nat} (us : List Value) (h : w.heap[g]? = some (.cells us.toArray t fr)) : CellsAt w (some ⟨g, 0, none⟩) us := fun _ =>
  ⟨g, 0, rfl, fun k hk => by rw [cell_of_row w g (0 + k) _ t fr h]; simp [hk]⟩

theorem OwnV.nil (w : World) (base : Nat) (E : TypeId) : OwnV w base (.slice none 0 0) E [] := World.ownsRow_nil w base E 1

theorem OwnV.new (w : World) (E : TypeId) (us : List Value) (base : Nat) (hb : base ≤ w.heap.size) (hl : us.length ≤ maxLen) : OwnV (w.alloc (.cells us.toArray E)) base (.slice (some ⟨w.heap.size, 0, none⟩) us.length us.length) E us :=
  ⟨by simp, .inr ⟨w.heap.size, us.length, _, rfl, hb, heap_alloc_new w _, Nat.le_refl _, hl, by simp, by simp [List.take_of_length_le]⟩⟩

theorem OwnV.cases (h : OwnV w base v E us) : (v = .slice none 0 0 ∧ us = []) ∨ ∃ g cap cur, v = .slice (some ⟨g, 0, none⟩) us.length cap ∧ base ≤ g ∧ us.length ≤ cap ∧ cap ≤ maxLen ∧ w.heap[g]? = some (.cells cur E (0, 0)) ∧ cur.size = cap ∧ cur.toList.take us.length = us := by
  rcases h.2 with ⟨h0, h1⟩ | ⟨g', cap', cur, hv, hb, hh, hn, hm, hs, ht⟩
  · exact .inl ⟨h0, List.eq_nil_of_length_eq_zero h1⟩
  · exact .inr ⟨g', cap', cur, hv, hb, hn, hm, hh, by simpa using hs, by simpa using ht⟩

theorem OwnV.bytes {A : Option Addr} {n c : Nat} (h : OwnV w base (.slice A n c) E us) : CellsAt w A us := by
  rcases h.cases with ⟨h1, rfl⟩ | ⟨g, cap, cur, h1, hb, hn, hm, hh, hs, ht⟩
  · exact CellsAt.nil _ _
  · injection h1 with h1 h2 h3
    subst h1
    exact fun _ => ⟨g, 0, rfl, fun k hk => by
      have := World.ownsRow.cellAt (g := g) (h2 ▸ h3 ▸ h) k (by simpa using hk)
      rw [Nat.zero_add, this]
      simp [hk]⟩
theorem OwnV.caps {A : Option Addr} {n c : Nat} (h : OwnV w base (.slice A n c) E us) : us.length = n ∧ n ≤ c ∧ c ≤ maxLen ∧ (A = none → n = 0 ∧ c = 0) := by
  rcases h.cases with ⟨h1, rfl⟩ | ⟨g, cap, cur, h1, hb, hn, hm, hh, hs, ht⟩
  · injection h1 with h1 h2 h3
    subst h1 h2 h3
    exact ⟨rfl, Nat.le_refl _, Nat.zero_le _, fun _ => ⟨rfl, rfl⟩⟩
  · injection h1 with h1 h2 h3
    subst h1 h2 h3
    exact ⟨rfl, hn, hm, fun h => by cases h⟩
theorem OwnV.block (h : OwnV w base v E us) : ∀ g, v.ownBlock = some g → base ≤ g ∧ g < w.heap.size := by
  intro g hg
  rcases h.cases with ⟨rfl, rfl⟩ | ⟨g', cap, cur, rfl, hb, hn, hm, hh, hs, ht⟩
  · simp [Value.ownBlock] at hg
  · simp [Value.ownBlock] at hg
    subst hg
    exact ⟨hb, (Array.getElem?_eq_some_iff.1 hh).1⟩
theorem OwnV.keep (h : OwnV w base v E us) (e : ∀ g, v.ownBlock = some g → w'.heap[g]? = w.heap[g]?) : OwnV w' base v E us := by
  rcases h.cases with ⟨rfl, rfl⟩ | ⟨g', cap, cur, rfl, hb, hn, hm, hh, hs, ht⟩
  · exact OwnV.nil w' base E
  · exact ⟨by simp, .inr ⟨g', cap, cur, rfl, hb, (e g' (by simp [Value.ownBlock])).trans hh, hn, hm, by simpa using hs, by simpa using ht⟩⟩
theorem OwnV.below (h : OwnV w base v E us) (hb : Below w.heap.size w w') : OwnV w' base v E us := h.keep fun g hg => hb.block g (h.block g hg).2
theorem OwnV.alloc (h : OwnV w base v E us) (o : Obj) : OwnV (w.alloc o) base v E us := h.keep fun g hg => Below.heap_alloc w o g (h.block g hg).2
theorem OwnV.mono {base' : Nat} (h : OwnV w base v E us) (hb : base' ≤ base) : OwnV w base' v E us := by
  rcases h.cases with ⟨rfl, rfl⟩ | ⟨g', cap, cur, rfl, h1, hn, hm, hh, hs, ht⟩
  · exact OwnV.nil w base' E
  · exact ⟨by simp, .inr ⟨g', cap, cur, rfl, Nat.le_trans hb h1, hh, hn, hm, by simpa using hs, by simpa using ht⟩⟩
theorem OwnV.beside (h : OwnV w base v E us) {r : Option Nat} (hg : w.grownBy w' r) (hne : ∀ g, v.ownBlock = some g → r ≠ some g) : OwnV w' base v E us :=
  h.keep fun g hg2 => hg.block g (h.block g hg2).2 (fun e => hne g hg2 e.symm)
theorem OwnV.belowGrown (h : OwnV w base v E us) {w0 : World} {B : Nat} (hB : B ≤ base) (hw : B ≤ w.heap.size) (hb : Below B w0 w) (hg : w.grownBy w' v.ownBlock) : Below B w0 w' :=
  hb.grown hg hw (fun k hk => Nat.le_trans hB (h.block k hk).1)

/-- Where it is a row: its cells, one by one, and what a store leaves. -/
theorem OwnV.row {g cap : Nat} {n : Nat} (h : OwnV w base (.slice (some ⟨g, 0, none⟩) n cap) E us) : base ≤ g ∧ us.length = n ∧ n ≤ cap ∧ cap ≤ maxLen ∧ g < w.heap.size ∧ (∀ j (hj : j < us.length), w.cell? ⟨g, j, none⟩ = some us[j]) ∧ ∀ j, w.frozen? ⟨g, j, none⟩ = false := by
  obtain ⟨h1, h2, h3, _⟩ := h.caps
  have h4 := h.block g (by simp [Value.ownBlock])
  refine ⟨h4.1, h1, h2, h3, h4.2, fun j hj => ?_, fun j => World.ownsRow.frozenAt (g := g) (h1 ▸ h) j⟩
  have := World.ownsRow.cellAt (g := g) (h1 ▸ h) j (by simpa using hj)
  rw [this]
  simp [hj]
theorem OwnV.stored {g cap n : Nat} (h : OwnV w base (.slice (some ⟨g, 0, none⟩) n cap) E us) (j : Nat) (u : Value) : OwnV (w.setCell ⟨g, j, none⟩ u) base (.slice (some ⟨g, 0, none⟩) n cap) E (us.set j u) := by
  rcases h.cases with ⟨h1, _⟩ | ⟨g', cap', cur, h1, hb, hn, hm, hh, hs, ht⟩
  · cases h1
  · injection h1 with h1 h2 h3
    injection h1 with h1
    injection h1 with h1
    subst h1 h2 h3
    have hh2 := heap_setCell_same w g j cur E u hh
    refine ⟨by simp, .inr ⟨g, cap, _, by simp, hb, hh2, by simpa using hn, hm, by simpa using hs, ?_⟩⟩
    simp only [List.length_set, Nat.mul_one, Array.toList_setIfInBounds]
    rw [List.take_set, ht]

theorem cellsAt_one (w : World) (u u' : Value) (t : TypeId) (hu : u = u') : CellsAt (w.alloc (.cells #[u] t)) (some ⟨w.heap.size, 0, none⟩) [u'] := fun _ =>
  ⟨w.heap.size, 0, rfl, fun k hk => by
    have : k = 0 := by simpa using hk
    subst this
    rw [World.cell?_alloc_new, hu]
    rfl⟩

variable {P : Program}
theorem run_append_v (t ty : TypeId) (ht : P.underlying t = some (.slice E)) (z : Value) (bytes : Nat) (hi : (P.info? E).map (fun i => (i.zero, i.size, i.bytes)) = some (some z, 1, bytes)) (hz1 : z.cells.size = 1)
    (hown : OwnV w base v E us) (A : Option Addr) (c n : Nat) (hn : vs.length = n) (hA : CellsAt w A vs) (h1 : ∀ u ∈ vs, u.oneCell' = true) (hl : (us.length + n) * bytes ≤ 140737488355328) (hm : us.length + n ≤ maxLen) (hbase : base ≤ w.heap.size) :
    ∃ A' c' w', (Builtin.append_ #[t, t] ty #[v, .slice A n c]).run P w = .ok (.slice A' (us ++ vs).length c') w' ∧
      OwnV w' base (.slice A' (us ++ vs).length c') E (us ++ vs) ∧ w.grownBy w' v.ownBlock := by
  obtain ⟨i, hi0, hz, hs, hb⟩ := info_parts hi
  subst hn
  by_cases hy : vs = []
  · subst hy
    rcases hown.cases with ⟨rfl, rfl⟩ | ⟨g, cap, cur, rfl, h2, hnn, hmm, hh, hss, htt⟩
    · refine ⟨none, 0, w, ?_, OwnV.nil w base E, World.grownBy.refl w _⟩
      cases A <;> simp [Builtin.append_, run_underlying ht, sizeOf, typeInfo, hi0, Builtin.lenOf, Builtin.firstCells, loadCells, loadCellsFrom]
    · refine ⟨some ⟨g, 0, none⟩, cap, w, ?_, by simpa using hown, World.grownBy.refl w _⟩
      cases A <;> simp [Builtin.append_, run_underlying ht, sizeOf, typeInfo, hi0, Builtin.lenOf, Builtin.firstCells, hnn, storeCells, loadCells, loadCellsFrom]
  · obtain ⟨ad, rfl, hc⟩ := hA.cells hy
    obtain ⟨v', w', hr, h2, h3, _, _⟩ := run_append_own_at (P := P) w base t ty E i z 1 bytes ht hi0 hz hs hb hz1 (by omega) v us.length us hown
      ad vs.length c vs (by simp) hc h1 hm hl hbase
    have h2' : OwnV w' base v' E (us ++ vs) := by
      unfold OwnV
      rw [List.length_append]
      exact h2
    rcases h2'.cases with ⟨rfl, h4⟩ | ⟨g', cap', cur, rfl, _⟩
    · have : vs = [] := (List.append_eq_nil_iff.1 h4).2
      exact absurd this hy
    · exact ⟨_, cap', w', hr, h2', h3⟩

theorem wpList_append_v {ops : Array Oper} {rest : List Oper} {o : Oper} {a : Act} {Q : Exit → Act → World → Prop} (hgd : o.guard = none) (s x : Operand) (t : TypeId)
    (ho : o.op = .call { callee := .builtin .append, args := #[s, x], argTypes := #[t, t] }) (ht : P.underlying t = some (.slice E)) (z : Value) (bytes : Nat) (hi : (P.info? E).map (fun i => (i.zero, i.size, i.bytes)) = some (some z, 1, bytes)) (hz1 : z.cells.size = 1)
    (hs : a.eval s = v) (hown : OwnV w base v E us) (A : Option Addr) (c n : Nat) (vs : List Value) (hx : a.eval x = .slice A n c) (hn : vs.length = n) (hA : CellsAt w A vs) (h1 : ∀ u ∈ vs, u.oneCell' = true)
    (hl : (us.length + n) * bytes ≤ 140737488355328) (hm : us.length + n ≤ maxLen) (hbase : base ≤ w.heap.size)
    (h : ∀ A' c' w', OwnV w' base (.slice A' (us ++ vs).length c') E (us ++ vs) → w.grownBy w' v.ownBlock → wpList P ops Q rest (a.put o.dst (.slice A' (us ++ vs).length c')) w') : wpList P ops Q (o :: rest) a w :=
  wpList_plain hgd fun _ hK => by
    obtain ⟨A', c', w', hr, h2, h3⟩ := run_append_v (P := P) t o.type ht z bytes hi hz1 hown A c n hn hA h1 hl hm hbase
    unfold Oper.wp execOp
    simp only [ho, resolve, invoke, builtin, Sem.run_bind, Sem.run_pure, Result.andThen_ok, List.map_toArray, List.map_cons, List.map_nil, hs, hx, hr]
    exact hK _ _ (h A' c' w' h2 h3)

/-- The same, the elements behind it under a name. -/
theorem wpList_append_vz {ops : Array Oper} {rest : List Oper} {o : Oper} {a : Act} {Q : Exit → Act → World → Prop} (hgd : o.guard = none) (s x : Operand) (t : TypeId)
    (ho : o.op = .call { callee := .builtin .append, args := #[s, x], argTypes := #[t, t] }) (ht : P.underlying t = some (.slice E)) (z : Value) (bytes : Nat) (hi : (P.info? E).map (fun i => (i.zero, i.size, i.bytes)) = some (some z, 1, bytes)) (hz1 : z.cells.size = 1)
    (hs : a.eval s = v) (hown : OwnV w base v E us) (A : Option Addr) (c n : Nat) (vs zs : List Value) (hx : a.eval x = .slice A n c) (hn : vs.length = n) (hA : CellsAt w A vs) (h1 : ∀ u ∈ vs, u.oneCell' = true) (hz : us ++ vs = zs)
    (hl : (us.length + n) * bytes ≤ 140737488355328) (hm : us.length + n ≤ maxLen) (hbase : base ≤ w.heap.size)
    (h : ∀ A' c' w', OwnV w' base (.slice A' zs.length c') E zs → w.grownBy w' v.ownBlock → wpList P ops Q rest (a.put o.dst (.slice A' zs.length c')) w') : wpList P ops Q (o :: rest) a w := by
  subst hz
  exact wpList_append_v hgd s x t ho ht z bytes hi hz1 hs hown A c n vs hx hn hA h1 hl hm hbase h
end
end Go.Proofs.Ytgkddhncfaeidaa
