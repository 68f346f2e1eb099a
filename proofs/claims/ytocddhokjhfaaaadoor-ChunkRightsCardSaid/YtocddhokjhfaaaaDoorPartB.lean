/- Several texts in one: The walk of VarintRows. Slices of one-cell elements that a call owns, nil among them: append, read, store. No program is named here. Values and how often each comes, as lists: plain mathematics. first and Put of package runs, and the reference's Put: their contracts. Put of package bits: its contract. The reference's Put of layer 9: its contract. run, continues and Get of package runs: their contracts over what Put laid. slices.Reverse of numbers in a row that a call owns: its contract. Bytes of package bits' Writer: its contract. The reference's calls of layer 4: their contracts. A region whose order is drawn, all but its last operations quiet in a class of worlds: one walk of the text's order serves every order; the last operations, in their forced order, run in whatever world of the class. No program is named here. Take and Bytes of layer 4's reference: their contracts. Writers and Readers as rows of bits; the statements' small test of layer 4. A Reader takes of whatever bytes; the reference's row of bits behind it. -/
import Derived.Test.YtocddhokjhfaaaaDoorPartA
import Derived.BigRegion
import Derived.RegionTactic
import Derived.IntWalk
import Derived.StillTail
namespace Go.Proofs.YtocddhokjhfaaaaDoor
open Go.RowKit VarM
set_option linter.unusedVariables false

/-- Numbers side by side. -/
def vall (l : List Nat) : List UInt8 := l.flatMap vput
theorem vall_snoc (l : List Nat) (n : Nat) : vall (l ++ [n]) = vall l ++ vput n := by simp [vall]
theorem vall_len (l : List Nat) (h : ∀ n ∈ l, n < 18446744073709551616) : (vall l).length ≤ 10 * l.length := by
  induction l with
  | nil => simp [vall]
  | cons a l ih =>
    have h1 := ih (fun n hn => h n (by simp [hn]))
    have h2 := vput_len10 (h a (by simp))
    simp only [vall, List.flatMap_cons, List.length_append, List.length_cons] at *
    omega

theorem put_more (A : Option Addr) (n c : Nat) (xs : List UInt8) (w : World) (hn : xs.length = n) (hx : BytesAt w A xs) (hl : n ≤ 100000000) (h0 : A = none → n = 0 ∧ c = 0) (v : Nat) (hv : v < 18446744073709551616) :
    Calls Tryd.prog 32 #[.slice A n c, .int .u64 v] w fun e w' => ∃ A' c', e = .returned (.slice A' (xs ++ vput v).length c') ∧ BytesAt w' A' (xs ++ vput v) ∧ (xs ++ vput v).length ≤ c' ∧ c' ≤ maxLen ∧ (A' = none → (xs ++ vput v).length = 0 ∧ c' = 0) ∧ Below w.heap.size w w' := by
  refine (put_any A n c xs w hn hx hl h0 v hv).mono ?_
  rintro e w' ⟨A', c', rfl, ho, hb⟩
  obtain ⟨A2, c2, he, hby, hl, hm, _⟩ := ho.slice
  injection he with h1 h2 h3
  subst h1
  subst h3
  refine ⟨A', c', rfl, hby, hl, hm, ?_, hb⟩
  rintro rfl
  rcases ho.cases with ⟨h4, h5⟩ | ⟨g, cap, h4, _⟩
  · injection h4 with _ h6 h7
    exact ⟨h6, h7⟩
  · injection h4 with h6
    cases h6

theorem get_more (A : Option Addr) (n c : Nat) (X rest : List UInt8) (w : World) (v : Nat) (q : Nat) (hq : q = (vput v).length) (hX : X = vput v ++ rest) (hn : X.length = n) (hx : BytesAt w A X) (hv : v < 18446744073709551616) :
    Calls Tryd.prog 56 #[.slice A n c] w fun e w' => e = .returned (.tuple #[.int .u64 (v : Int), .int .i64 (q : Int), .int .i64 0]) ∧ w = w' := by
  subst hq
  have h := get_any A n c X w hn hx
  have e := vget_put rest v 0 0 (by omega) (by simpa using hv) (fun h => absurd h (by omega))
  rw [hX, e] at h
  simpa using h

/-- The first m of the numbers that came in. -/
def natsOf (zs : List Int) (m : Nat) : List Nat := (zs.take m).map Int.toNat
theorem natsOf_succ (zs : List Int) (m : Nat) (h : m < zs.length) : natsOf zs (m + 1) = natsOf zs m ++ [zs[m].toNat] := by
  unfold natsOf
  rw [List.take_succ_eq_append_getElem h, List.map_append]
  rfl

end Go.Proofs.YtocddhokjhfaaaaDoor

namespace Go.Proofs.YtocddhokjhfaaaaDoor
open Go.RowKit

/-- The slice value over A reads as these cells. -/
def CellsAt (w : World) (A : Option Addr) (us : List Value) : Prop :=
  us ≠ [] → ∃ b off, A = some ⟨b, off, none⟩ ∧ ∀ k (h : k < us.length), w.cell? ⟨b, off + k, none⟩ = some us[k]

/-- The slice v, from block base on, is these elements and is owned. -/
def OwnV (w : World) (base : Nat) (v : Value) (E : TypeId) (us : List Value) : Prop := w.ownsRow base E 1 v us.length us

section
variable {w w' : World} {base : Nat} {v : Value} {E : TypeId} {us vs : List Value}

theorem CellsAt.nil (w : World) (A : Option Addr) : CellsAt w A [] := fun h => absurd rfl h
theorem CellsAt.below {A : Option Addr} (h : CellsAt w A us) (hb : Below w.heap.size w w') : CellsAt w' A us := fun hx => by
  obtain ⟨b, off, ha, hc⟩ := h hx
  exact ⟨b, off, ha, fun k hk => (hb.cell (p := ⟨b, off + k, none⟩) (World.block_lt_of_cell? w _ (hc k hk))).trans (hc k hk)⟩
theorem CellsAt.take {A : Option Addr} (h : CellsAt w A us) (n : Nat) : CellsAt w A (us.take n) := fun hne => by
  obtain ⟨b, off, ha, hc⟩ := h (by intro h0; subst h0; simp at hne)
  refine ⟨b, off, ha, fun k hk => ?_⟩
  have hk' : k < us.length := by simp at hk; omega
  rw [hc k hk']
  simp
theorem CellsAt.cut {A : Option Addr} (h : CellsAt w A us) (k : Nat) (A' : Option Addr) (hA : k < us.length → A' = A.map (·.add k)) : CellsAt w A' (us.drop k) := fun hne => by
  have hk0 : k < us.length := by
    rcases Nat.lt_or_ge k us.length with h | h
    · exact h
    · exact absurd (List.drop_eq_nil_of_le h) hne
  obtain ⟨b, off, ha, hc⟩ := h (by intro h0; subst h0; simp at hk0)
  have hadd : (⟨b, off, none⟩ : Addr).add k = ⟨b, off + k, none⟩ := by unfold Addr.add; split <;> simp_all
  refine ⟨b, off + k, by rw [hA hk0, ha, Option.map_some, hadd], fun i hi => ?_⟩
  have hi' : k + i < us.length := by simp at hi; omega
  rw [Nat.add_assoc, hc (k + i) hi']
  simp
theorem CellsAt.cells {A : Option Addr} (h : CellsAt w A us) (hy : us ≠ []) : ∃ ad, A = some ad ∧ ∀ j u, us[j]? = some u → w.cell? (ad.add j) = some u := by
  obtain ⟨b, off, ha, hc⟩ := h hy
  refine ⟨⟨b, off, none⟩, ha, fun j u hu => ?_⟩
  obtain ⟨hj, e⟩ := List.getElem?_eq_some_iff.1 hu
  have hadd : (⟨b, off, none⟩ : Addr).add j = ⟨b, off + j, none⟩ := by unfold Addr.add; split <;> simp_all
  rw [hadd, hc j hj, e]
theorem cellsAt_block {g : Nat} {t : TypeId} {fr : Nat × Nat} (us : List Value) (h : w.heap[g]? = some (.cells us.toArray t fr)) : CellsAt w (some ⟨g, 0, none⟩) us := fun _ =>
  ⟨g, 0, rfl, fun k hk => by rw [cell_of_row w g (0 + k) _ t fr h]; simp [hk]⟩

theorem OwnV.nil (w : World) (base : Nat) (E : TypeId) : OwnV w base (.slice none 0 0) E [] := World.ownsRow_nil w base E 1

theorem OwnV.new (w : World) (E : TypeId) (us : List Value) (base : Nat) (hb : base ≤ w.heap.size) (hl : us.length ≤ maxLen) : OwnV (w.alloc (.cells us.toArray E)) base (.slice (some ⟨w.heap.size, 0, none⟩) us.length us.length) E us :=
  ⟨by simp, .inr ⟨w.heap.size, us.length, _, rfl, hb, heap_alloc_new w _, Nat.le_refl _, hl, by simp, by simp [List.take_of_length_le]⟩⟩

theorem OwnV.cases (h : OwnV w base v E us) : (v = .slice none 0 0 ∧ us = []) ∨ ∃ g cap cur, v = .slice (some ⟨g, 0, none⟩) us.length cap ∧ base ≤ g ∧ us.length ≤ cap ∧ cap ≤ maxLen ∧ w.heap[g]? = some (.cells cur E (0, 0)) ∧ cur.size = cap ∧ cur.toList.take us.length = us := by
  rcases h.2 with ⟨h0, h1⟩ | ⟨g', cap', cur, hv, hb, hh, hn, hm, hs, ht⟩
  · exact .inl ⟨h0, List.eq_nil_of_length_eq_zero h1⟩
  · exact .inr ⟨g', cap', cur, hv, hb, hn, hm, hh, by simpa using hs, by simpa using ht⟩

theorem OwnV.bytes {A : Option Addr} {n c : Nat} (h : OwnV w base (.slice A n c) E us) : CellsAt w A us := by
  rcases h.cases with ⟨h1, rfl⟩ | ⟨g, cap, cur, h1, hb, hn, hm, hh, hs, ht⟩
  · exact CellsAt.nil _ _
  · injection h1 with h1 h2 h3
    subst h1
    exact fun _ => ⟨g, 0, rfl, fun k hk => by
      have := World.ownsRow.cellAt (g := g) (h2 ▸ h3 ▸ h) k (by simpa using hk)
      rw [Nat.zero_add, this]
      simp [hk]⟩
theorem OwnV.caps {A : Option Addr} {n c : Nat} (h : OwnV w base (.slice A n c) E us) : us.length = n ∧ n ≤ c ∧ c ≤ maxLen ∧ (A = none → n = 0 ∧ c = 0) := by
  rcases h.cases with ⟨h1, rfl⟩ | ⟨g, cap, cur, h1, hb, hn, hm, hh, hs, ht⟩
  · injection h1 with h1 h2 h3
    subst h1 h2 h3
    exact ⟨rfl, Nat.le_refl _, Nat.zero_le _, fun _ => ⟨rfl, rfl⟩⟩
  · injection h1 with h1 h2 h3
    subst h1 h2 h3
    exact ⟨rfl, hn, hm, fun h => by cases h⟩
theorem OwnV.block (h : OwnV w base v E us) : ∀ g, v.ownBlock = some g → base ≤ g ∧ g < w.heap.size := by
  intro g hg
  rcases h.cases with ⟨rfl, rfl⟩ | ⟨g', cap, cur, rfl, hb, hn, hm, hh, hs, ht⟩
  · simp [Value.ownBlock] at hg
  · simp [Value.ownBlock] at hg
    subst hg
    exact ⟨hb, (Array.getElem?_eq_some_iff.1 hh).1⟩
theorem OwnV.keep (h : OwnV w base v E us) (e : ∀ g, v.ownBlock = some g → w'.heap[g]? = w.heap[g]?) : OwnV w' base v E us := by
  rcases h.cases with ⟨rfl, rfl⟩ | ⟨g', cap, cur, rfl, hb, hn, hm, hh, hs, ht⟩
  · exact OwnV.nil w' base E
  · exact ⟨by simp, .inr ⟨g', cap, cur, rfl, hb, (e g' (by simp [Value.ownBlock])).trans hh, hn, hm, by simpa using hs, by simpa using ht⟩⟩
theorem OwnV.below (h : OwnV w base v E us) (hb : Below w.heap.size w w') : OwnV w' base v E us := h.keep fun g hg => hb.block g (h.block g hg).2
theorem OwnV.alloc (h : OwnV w base v E us) (o : Obj) : OwnV (w.alloc o) base v E us := h.keep fun g hg => Below.heap_alloc w o g (h.block g hg).2
theorem OwnV.mono {base' : Nat} (h : OwnV w base v E us) (hb : base' ≤ base) : OwnV w base' v E us := by
  rcases h.cases with ⟨rfl, rfl⟩ | ⟨g', cap, cur, rfl, h1, hn, hm, hh, hs, ht⟩
  · exact OwnV.nil w base' E
  · exact ⟨by simp, .inr ⟨g', cap, cur, rfl, Nat.le_trans hb h1, hh, hn, hm, by simpa using hs, by simpa using ht⟩⟩
theorem OwnV.beside (h : OwnV w base v E us) {r : Option Nat} (hg : w.grownBy w' r) (hne : ∀ g, v.ownBlock = some g → r ≠ some g) : OwnV w' base v E us :=
  h.keep fun g hg2 => hg.block g (h.block g hg2).2 (fun e => hne g hg2 e.symm)
theorem OwnV.belowGrown (h : OwnV w base v E us) {w0 : World} {B : Nat} (hB : B ≤ base) (hw : B ≤ w.heap.size) (hb : Below B w0 w) (hg : w.grownBy w' v.ownBlock) : Below B w0 w' :=
  hb.grown hg hw (fun k hk => Nat.le_trans hB (h.block k hk).1)

/-- Where it is a row: its cells, one by one, and what a store leaves. -/
theorem OwnV.row {g cap : Nat} {n : Nat} (h : OwnV w base (.slice (some ⟨g, 0, none⟩) n cap) E us) : base ≤ g ∧ us.length = n ∧ n ≤ cap ∧ cap ≤ maxLen ∧ g < w.heap.size ∧ (∀ j (hj : j < us.length), w.cell? ⟨g, j, none⟩ = some us[j]) ∧ ∀ j, w.frozen? ⟨g, j, none⟩ = false := by
  obtain ⟨h1, h2, h3, _⟩ := h.caps
  have h4 := h.block g (by simp [Value.ownBlock])
  refine ⟨h4.1, h1, h2, h3, h4.2, fun j hj => ?_, fun j => World.ownsRow.frozenAt (g := g) (h1 ▸ h) j⟩
  have := World.ownsRow.cellAt (g := g) (h1 ▸ h) j (by simpa using hj)
  rw [this]
  simp [hj]
theorem OwnV.stored {g cap n : Nat} (h : OwnV w base (.slice (some ⟨g, 0, none⟩) n cap) E us) (j : Nat) (u : Value) : OwnV (w.setCell ⟨g, j, none⟩ u) base (.slice (some ⟨g, 0, none⟩) n cap) E (us.set j u) := by
  rcases h.cases with ⟨h1, _⟩ | ⟨g', cap', cur, h1, hb, hn, hm, hh, hs, ht⟩
  · cases h1
  · injection h1 with h1 h2 h3
    injection h1 with h1
    injection h1 with h1
    subst h1 h2 h3
    have hh2 := heap_setCell_same w g j cur E u hh
    refine ⟨by simp, .inr ⟨g, cap, _, by simp, hb, hh2, by simpa using hn, hm, by simpa using hs, ?_⟩⟩
    simp only [List.length_set, Nat.mul_one, Array.toList_setIfInBounds]
    rw [List.take_set, ht]

theorem cellsAt_one (w : World) (u u' : Value) (t : TypeId) (hu : u = u') : CellsAt (w.alloc (.cells #[u] t)) (some ⟨w.heap.size, 0, none⟩) [u'] := fun _ =>
  ⟨w.heap.size, 0, rfl, fun k hk => by
    have : k = 0 := by simpa using hk
    subst this
    rw [World.cell?_alloc_new, hu]
    rfl⟩

variable {P : Program}
theorem run_append_v (t ty : TypeId) (ht : P.underlying t = some (.slice E)) (z : Value) (bytes : Nat) (hi : (P.info? E).map (fun i => (i.zero, i.size, i.bytes)) = some (some z, 1, bytes)) (hz1 : z.cells.size = 1)
    (hown : OwnV w base v E us) (A : Option Addr) (c n : Nat) (hn : vs.length = n) (hA : CellsAt w A vs) (h1 : ∀ u ∈ vs, u.oneCell' = true) (hl : (us.length + n) * bytes ≤ 140737488355328) (hm : us.length + n ≤ maxLen) (hbase : base ≤ w.heap.size) :
    ∃ A' c' w', (Builtin.append_ #[t, t] ty #[v, .slice A n c]).run P w = .ok (.slice A' (us ++ vs).length c') w' ∧
      OwnV w' base (.slice A' (us ++ vs).length c') E (us ++ vs) ∧ w.grownBy w' v.ownBlock := by
  obtain ⟨i, hi0, hz, hs, hb⟩ := info_parts hi
  subst hn
  by_cases hy : vs = []
  · subst hy
    rcases hown.cases with ⟨rfl, rfl⟩ | ⟨g, cap, cur, rfl, h2, hnn, hmm, hh, hss, htt⟩
    · refine ⟨none, 0, w, ?_, OwnV.nil w base E, World.grownBy.refl w _⟩
      cases A <;> simp [Builtin.append_, run_underlying ht, sizeOf, typeInfo, hi0, Builtin.lenOf, Builtin.firstCells, storeCells, loadCells, loadCellsFrom]
    · refine ⟨some ⟨g, 0, none⟩, cap, w, ?_, by simpa using hown, World.grownBy.refl w _⟩
      cases A <;> simp [Builtin.append_, run_underlying ht, sizeOf, typeInfo, hi0, Builtin.lenOf, Builtin.firstCells, hnn, storeCells, loadCells, loadCellsFrom]
  · obtain ⟨ad, rfl, hc⟩ := hA.cells hy
    obtain ⟨v', w', hr, h2, h3, _, _⟩ := run_append_own_at (P := P) w base t ty E i z 1 bytes ht hi0 hz hs hb hz1 (by omega) v us.length us hown
      ad vs.length c vs (by simp) hc h1 hm hl hbase
    have h2' : OwnV w' base v' E (us ++ vs) := by
      unfold OwnV
      rw [List.length_append]
      exact h2
    rcases h2'.cases with ⟨rfl, h4⟩ | ⟨g', cap', cur, rfl, _⟩
    · have : vs = [] := (List.append_eq_nil_iff.1 h4).2
      exact absurd this hy
    · exact ⟨_, cap', w', hr, h2', h3⟩

theorem wpList_append_v {ops : Array Oper} {rest : List Oper} {o : Oper} {a : Act} {Q : Exit → Act → World → Prop} (hgd : o.guard = none) (s x : Operand) (t : TypeId)
    (ho : o.op = .call { callee := .builtin .append, args := #[s, x], argTypes := #[t, t] }) (ht : P.underlying t = some (.slice E)) (z : Value) (bytes : Nat) (hi : (P.info? E).map (fun i => (i.zero, i.size, i.bytes)) = some (some z, 1, bytes)) (hz1 : z.cells.size = 1)
    (hs : a.eval s = v) (hown : OwnV w base v E us) (A : Option Addr) (c n : Nat) (vs : List Value) (hx : a.eval x = .slice A n c) (hn : vs.length = n) (hA : CellsAt w A vs) (h1 : ∀ u ∈ vs, u.oneCell' = true)
    (hl : (us.length + n) * bytes ≤ 140737488355328) (hm : us.length + n ≤ maxLen) (hbase : base ≤ w.heap.size)
    (h : ∀ A' c' w', OwnV w' base (.slice A' (us ++ vs).length c') E (us ++ vs) → w.grownBy w' v.ownBlock → wpList P ops Q rest (a.put o.dst (.slice A' (us ++ vs).length c')) w') : wpList P ops Q (o :: rest) a w :=
  wpList_plain hgd fun _ hK => by
    obtain ⟨A', c', w', hr, h2, h3⟩ := run_append_v (P := P) t o.type ht z bytes hi hz1 hown A c n hn hA h1 hl hm hbase
    unfold Oper.wp execOp
    simp only [ho, resolve, invoke, builtin, Sem.run_bind, Sem.run_pure, Result.andThen_ok, List.map_toArray, List.map_cons, List.map_nil, hs, hx, hr]
    exact hK _ _ (h A' c' w' h2 h3)

/-- The same, the elements behind it under a name. -/
theorem wpList_append_vz {ops : Array Oper} {rest : List Oper} {o : Oper} {a : Act} {Q : Exit → Act → World → Prop} (hgd : o.guard = none) (s x : Operand) (t : TypeId)
    (ho : o.op = .call { callee := .builtin .append, args := #[s, x], argTypes := #[t, t] }) (ht : P.underlying t = some (.slice E)) (z : Value) (bytes : Nat) (hi : (P.info? E).map (fun i => (i.zero, i.size, i.bytes)) = some (some z, 1, bytes)) (hz1 : z.cells.size = 1)
    (hs : a.eval s = v) (hown : OwnV w base v E us) (A : Option Addr) (c n : Nat) (vs zs : List Value) (hx : a.eval x = .slice A n c) (hn : vs.length = n) (hA : CellsAt w A vs) (h1 : ∀ u ∈ vs, u.oneCell' = true) (hz : us ++ vs = zs)
    (hl : (us.length + n) * bytes ≤ 140737488355328) (hm : us.length + n ≤ maxLen) (hbase : base ≤ w.heap.size)
    (h : ∀ A' c' w', OwnV w' base (.slice A' zs.length c') E zs → w.grownBy w' v.ownBlock → wpList P ops Q rest (a.put o.dst (.slice A' zs.length c')) w') : wpList P ops Q (o :: rest) a w := by
  subst hz
  exact wpList_append_v hgd s x t ho ht z bytes hi hz1 hs hown A c n vs hx hn hA h1 hl hm hbase h
end
end Go.Proofs.YtocddhokjhfaaaaDoor

namespace RunM
open VarM

/-- How long the run is that a list begins with. -/
def runLen : List Nat → Nat
  | [] => 0
  | x :: l => ((x :: l).takeWhile fun y => y == x).length

theorem runLen_le (l : List Nat) : runLen l ≤ l.length := by
  cases l with
  | nil => simp [runLen]
  | cons x l => exact (List.takeWhile_prefix _).length_le
theorem runLen_pos (x : Nat) (l : List Nat) : 1 ≤ runLen (x :: l) := by
  show 1 ≤ ((x :: l).takeWhile fun y => y == x).length
  rw [List.takeWhile_cons_of_pos (by simp)]
  simp

theorem takeWhile_spec (p : Nat → Bool) : ∀ (l : List Nat) (i : Nat) (hi : i < l.length), (i < (l.takeWhile p).length → p l[i] = true) ∧ (i = (l.takeWhile p).length → p l[i] = false) := by
  intro l
  induction l with
  | nil => intro i hi; simp at hi
  | cons a l ih =>
    intro i hi
    by_cases h : p a = true
    · rw [List.takeWhile_cons_of_pos h]
      cases i with
      | zero => simp [h]
      | succ i => simpa using ih i (by simpa using hi)
    · rw [List.takeWhile_cons_of_neg h]
      constructor
      · intro h2; simp at h2
      · intro h2
        have : i = 0 := by simpa using h2
        subst this
        simpa using h

/-- Each of the run's is the first one; the one behind it is another one. -/
theorem runLen_same (x : Nat) (l : List Nat) (i : Nat) (hi : i < (x :: l).length) (h : i < runLen (x :: l)) : (x :: l)[i] = x := by
  have := (takeWhile_spec (fun y => y == x) (x :: l) i hi).1 h
  simpa using this
theorem runLen_next (x : Nat) (l : List Nat) (hi : runLen (x :: l) < (x :: l).length) : (x :: l)[runLen (x :: l)] ≠ x := by
  have := (takeWhile_spec (fun y => y == x) (x :: l) _ hi).2 rfl
  simpa using this

theorem take_run (x : Nat) (l : List Nat) : (x :: l).take (runLen (x :: l)) = List.replicate (runLen (x :: l)) x := by
  apply List.ext_getElem
  · have := runLen_le (x :: l)
    simp at this ⊢
    omega
  · intro i h1 h2
    have h3 : i < runLen (x :: l) := by simpa using h2
    have := runLen_le (x :: l)
    rw [List.getElem_take, runLen_same x l i (by omega) h3]
    simp

/-- Values as bytes. -/
def rput : List Nat → List UInt8
  | [] => []
  | x :: l => vput (runLen (x :: l)) ++ vput x ++ rput ((x :: l).drop (runLen (x :: l)))
termination_by l => l.length
decreasing_by
  have := runLen_pos x l
  simp
  omega

theorem rput_nil : rput [] = [] := by rw [rput]
theorem rput_cons (x : Nat) (l : List Nat) : rput (x :: l) = vput (runLen (x :: l)) ++ vput x ++ rput ((x :: l).drop (runLen (x :: l))) := by rw [rput]

theorem rput_len (k : Nat) : ∀ (l : List Nat), l.length ≤ k → (∀ n ∈ l, n < 18446744073709551616) → l.length < 18446744073709551616 → (rput l).length ≤ 20 * l.length := by
  induction k with
  | zero =>
    intro l h _ _
    have := List.eq_nil_of_length_eq_zero (Nat.le_zero.1 h)
    subst this
    simp [rput_nil]
  | succ k ih =>
    intro l h hn hl
    cases l with
    | nil => simp [rput_nil]
    | cons x l =>
      have h1 := runLen_pos x l
      have h2 := runLen_le (x :: l)
      rw [rput_cons]
      have h3 := ih ((x :: l).drop (runLen (x :: l))) (by simp at h ⊢; omega) (fun n hn2 => hn n (List.mem_of_mem_drop hn2)) (by simp at hl ⊢; omega)
      have h4 := vput_len10 (show runLen (x :: l) < 18446744073709551616 by omega)
      have h5 := vput_len10 (hn x (by simp))
      simp only [List.length_append, List.length_drop] at *
      omega

theorem rput_len_two (k : Nat) : ∀ (l : List Nat), l.length ≤ k → 1 ≤ l.length → 2 ≤ (rput l).length := by
  intro l _ h
  cases l with
  | nil => simp at h
  | cons x l =>
    rw [rput_cons]
    have := vput_len_pos (runLen (x :: l))
    have := vput_len_pos x
    simp only [List.length_append]
    omega

theorem runLen_replicate (k x : Nat) : runLen (List.replicate k x) = k := by
  cases k with
  | zero => rfl
  | succ k =>
    show ((List.replicate (k + 1) x).takeWhile fun y => y == x).length = k + 1
    rw [List.takeWhile_replicate]
    simp
theorem rput_replicate (k x : Nat) (hk : 1 ≤ k) : rput (List.replicate k x) = vput k ++ vput x := by
  obtain ⟨j, rfl⟩ : ∃ j, k = j + 1 := ⟨k - 1, by omega⟩
  have h1 := runLen_replicate (j + 1) x
  rw [List.replicate_succ] at *
  rw [rput_cons, h1, List.drop_of_length_le (by simp), rput_nil, List.append_nil]

/-- No value is the one ahead. -/
theorem rput_turns : ∀ (n : Nat) (l : List Nat), l.length = n → (∀ i (h : i + 1 < l.length), l[i + 1] ≠ l[i]) → 2 * l.length ≤ (rput l).length := by
  intro n
  induction n with
  | zero => intro l h _; rw [h]; simp
  | succ n ih =>
    intro l h hne
    cases l with
    | nil => simp
    | cons x l =>
      have h1 : runLen (x :: l) = 1 := by
        have h2 := runLen_pos x l
        rcases Nat.lt_or_ge 1 (runLen (x :: l)) with h3 | h3
        · have h4 := runLen_le (x :: l)
          have h5 := runLen_same x l 1 (by omega) h3
          exact absurd h5 (hne 0 (by omega))
        · omega
      rw [rput_cons, h1]
      have h6 := ih l (by simpa using h) (fun i hi => by have := hne (i + 1) (by simpa using hi); simpa using this)
      have h7 := vput_len_pos 1
      have h8 := vput_len_pos x
      simp only [List.drop_succ_cons, List.drop_zero, List.length_append, List.length_cons]
      omega
end RunM

namespace Go.Proofs.YtocddhokjhfaaaaDoor
open Go.RowKit VarM RunM
set_option linter.unusedVariables false

/-- A number as a value. -/
def uv (n : Nat) : Value := .int .u64 (n : Int)
theorem uv_one (ns : List Nat) : ∀ u ∈ ns.map uv, u.oneCell' = true := by
  intro u hu
  obtain ⟨c, _, rfl⟩ := List.mem_map.1 hu
  rfl
theorem infoU64 : (Tryd.prog.info? 22).map (fun i => (i.zero, i.size, i.bytes)) = some (some (.int .u64 0), 1, 8) := by kernel_rfl

/-- The slice over A reads as these numbers. -/
def NatsAt (w : World) (A : Option Addr) (ns : List Nat) : Prop := CellsAt w A (ns.map uv)
theorem NatsAt.cell {w : World} {b off : Nat} {ns : List Nat} (h : NatsAt w (some ⟨b, off, none⟩) ns) (k : Nat) (hk : k < ns.length) : w.cell? ⟨b, off + k, none⟩ = some (.int .u64 (ns[k] : Int)) := by
  obtain ⟨b', off', he, hc⟩ := h (by intro h0; have := congrArg List.length h0; simp at this; subst this; simp at hk)
  injection he with he
  injection he with h1 h2
  subst h1 h2
  have := hc k (by simpa using hk)
  rw [this]
  simp [uv]
theorem NatsAt.addr {w : World} {A : Option Addr} {ns : List Nat} (h : NatsAt w A ns) (hne : ns ≠ []) : ∃ b off, A = some ⟨b, off, none⟩ := by
  obtain ⟨b, off, he, _⟩ := h (by simpa using hne)
  exact ⟨b, off, he⟩
theorem NatsAt.below {w w' : World} {A : Option Addr} {ns : List Nat} (h : NatsAt w A ns) (hb : Below w.heap.size w w') : NatsAt w' A ns := CellsAt.below h hb
theorem NatsAt.take {w : World} {A : Option Addr} {ns : List Nat} (h : NatsAt w A ns) (n : Nat) : NatsAt w A (ns.take n) := by unfold NatsAt; rw [List.map_take]; exact CellsAt.take h n
theorem NatsAt.cut {w : World} {A : Option Addr} {ns : List Nat} (h : NatsAt w A ns) (k : Nat) (A' : Option Addr) (hA : k < ns.length → A' = A.map (·.add k)) : NatsAt w A' (ns.drop k) := by
  unfold NatsAt; rw [List.map_drop]; exact CellsAt.cut h k A' (by simpa using hA)

set_option maxRecDepth 100000 in
theorem first_any (A : Option Addr) (n c : Nat) (ns : List Nat) (w : World) (hn : ns.length = n) (hx : NatsAt w A ns) (hl : n ≤ 100000000) :
    Calls Tryd.prog 61 #[.slice A n c] w fun e w' => e = .returned (.int .i64 (runLen ns : Int)) ∧ Below w.heap.size w w' := by
  subst hn
  go_enter Tryd.func61, Tryd.ntmps61
  go_wp2_with fail
  go_loopw [3] (fun i wr => ∃ k : Nat, k ≤ runLen ns ∧ i = .int .i64 k ∧ Below w.heap.size w wr) (fun i _ => ns.length - (intOf i).toNat)
  case atStart => exact ⟨0, by omega, rfl, Below.refl _ _⟩
  case round =>
    obtain ⟨k, hk, rfl, hb⟩ := hrel
    have hle := runLen_le ns
    cases ns with
    | nil =>
      have hk0 : k = 0 := by simpa [runLen] using hk
      subst hk0
      go_wp2_with fail
      go_quiet (fail)
      go_wp2_with fail
      go_ret
      exact ⟨rfl, below_drewN hb _⟩
    | cons x l =>
      have hx' := hx.below hb
      obtain ⟨b, off, rfl⟩ := hx.addr (by simp)
      have h0 := hx'.cell 0 (by simp)
      rw [Nat.add_zero] at h0
      by_cases hlt : k < (x :: l).length
      · have hk0 := hx'.cell k hlt
        have hlen : 0 < (x :: l).length := by simp
        have h00 : (x :: l)[0] = x := rfl
        rw [h00] at h0
        have hrun : k < runLen (x :: l) ↔ (x :: l)[k] = x := by
          constructor
          · exact runLen_same x l k hlt
          · intro h
            rcases Nat.lt_or_ge k (runLen (x :: l)) with h2 | h2
            · exact h2
            · obtain rfl : k = runLen (x :: l) := by omega
              exact absurd h (runLen_next x l hlt)
        generalize (x :: l)[k] = y at *
        generalize hN : x :: l = N at *
        have HN := Lib.hid hN
        clear hN h00
        by_cases hy : y = x
        · have hkr := hrun.2 hy
          subst hy
          clear hrun
          go_wp2_with fail
          go_quiet (fail)
          go_wp2_with fail
          go_roundw
          case rel => exact ⟨k + 1, by omega, by go_num, below_drewN hb _⟩
          case measure => simp [intOf]; omega
        · have hkr : k = runLen N := by
            have : ¬ k < runLen N := fun h => hy (hrun.1 h)
            omega
          have hne : ((y : Int) == (x : Int)) = false := by simp; omega
          have HKR := Lib.hid hkr
          clear hrun hkr hk
          go_wp2_with fail
          go_quiet (fail)
          go_wp2_with fail
          go_ret
          exact ⟨by rw [HKR.out, HN.out]; rfl, below_drewN hb _⟩
      · have hkr : k = runLen (x :: l) := by omega
        have HKR := Lib.hid hkr
        clear hkr hk hle
        generalize hN : (x :: l).length = m at *
        go_wp2_with fail
        go_quiet (fail)
        go_wp2_with fail
        go_ret
        exact ⟨by rw [HKR.out]; rfl, below_drewN hb _⟩

theorem wrap_small (k : Nat) (h : k < 18446744073709551616) : IntKind.u64.wrap (k : Int) = (k : Int) := by rw [IntKind.wrap_u64]; omega

set_option maxHeartbeats 400000 in
set_option maxRecDepth 100000 in
theorem runPut_any (A : Option Addr) (n c : Nat) (ns : List Nat) (w : World) (hn : ns.length = n) (hx : NatsAt w A ns) (hl : n ≤ 200) (hc : n ≤ c) (hcm : c ≤ maxLen) (hm : ∀ v ∈ ns, v < 18446744073709551616) :
    Calls Tryd.prog 41 #[.slice A n c] w fun e w' => ∃ A' c', e = .returned (.tuple #[.slice A' (rput ns).length c', .int .i64 0]) ∧ BytesAt w' A' (rput ns) ∧ (rput ns).length ≤ c' ∧ c' ≤ maxLen ∧ (A' = none → (rput ns).length = 0 ∧ c' = 0) ∧ Below w.heap.size w w' := by
  have hlen := rput_len n ns (by omega) hm (by omega)
  obtain ⟨Z, hZ⟩ : ∃ Z, rput ns = Z := ⟨_, rfl⟩
  rw [hZ] at hlen ⊢
  have HZ := Lib.hid hZ
  clear hZ
  have hm2 : ¬ (200 : Int) < (n : Int) := by omega
  go_enter Tryd.func41, Tryd.ntmps41
  go_wp2_with fail
  go_loopw [4, 0] (fun b l wr => ∃ (pre : List UInt8) (todo : List Nat) (Al : Option Addr) (nl cl : Nat) (Ab : Option Addr) (nb cb : Nat), l = .slice Al nl cl ∧ todo.length = nl ∧ nl ≤ n ∧ NatsAt wr Al todo ∧ nl ≤ cl ∧ cl ≤ maxLen ∧ (∀ v ∈ todo, v < 18446744073709551616) ∧
      b = .slice Ab nb cb ∧ pre.length = nb ∧ BytesAt wr Ab pre ∧ nb ≤ cb ∧ cb ≤ maxLen ∧ (Ab = none → nb = 0 ∧ cb = 0) ∧ pre ++ rput todo = Z ∧ Below w.heap.size w wr) (fun _ l _ => match l with | .slice _ k _ => k | _ => 0)
  case atStart => exact ⟨[], ns, A, n, c, none, 0, 0, rfl, hn, Nat.le_refl _, hx, hc, hcm, hm, rfl, rfl, fun h => absurd rfl h, Nat.le_refl _, by unfold maxLen; omega, fun _ => ⟨rfl, rfl⟩, HZ.out, Below.refl _ _⟩
  case round =>
    obtain ⟨pre, todo, Al, nl, cl, Ab, nb, cb, rfl, hnl, hnn, hxl, hcl, hclm, hmt, rfl, hnb, hxb, hcb, hcbm, hab, hpre, hb⟩ := hrel
    have hpl : nb ≤ 4000 := by
      have := congrArg List.length hpre
      rw [List.length_append] at this
      omega
    cases todo with
    | nil =>
      have h0 : nl = 0 := hnl.symm
      subst h0
      rw [rput_nil, List.append_nil] at hpre
      subst hpre
      have HNB := Lib.hid hnb
      clear hnb hpl
      go_wp2_with fail
      go_ret2
      have := HNB.out
      subst this
      exact ⟨Ab, cb, rfl, hxb, hcb, hcbm, hab, hb⟩
    | cons x l =>
      have hx0 : x < 18446744073709551616 := hmt x (by simp)
      obtain ⟨r, hr⟩ : ∃ r, r = runLen (x :: l) := ⟨_, rfl⟩
      have hr1 : 1 ≤ r := hr ▸ runLen_pos x l
      have hrl : r ≤ nl := by rw [← hnl]; exact hr ▸ runLen_le (x :: l)
      have hr64 : r < 18446744073709551616 := by omega
      have hw := wrap_small r hr64
      obtain ⟨b, off, rfl⟩ := hxl.addr (by simp)
      have hc0 := hxl.cell 0 (by simp)
      rw [Nat.add_zero] at hc0
      have h00 : (x :: l)[0] = x := rfl
      rw [h00] at hc0
      have hblt := World.block_lt_of_cell? wr _ hc0
      have hput := rput_cons x l
      rw [← hr] at hput
      rw [hput] at hpre
      have HPRE := Lib.hid hpre
      have HR := Lib.hid hr
      have HNL := Lib.hid hnl
      have HNB := Lib.hid hnb
      have hv1 := vput_len10 hr64
      have hv2 := vput_len10 hx0
      unfold maxLen at hclm
      clear hpre hr hput hnl hnb h00
      go_wp2_with (first
        | (go_at_call 61; with_reducible refine (first_any (some ⟨b, off, none⟩) nl cl (x :: l) _ HNL.out hxl (by omega)).mono ?_; rw [← HR.out]; rintro e w1 ⟨rfl, hb1⟩)
        | (go_at_call 32; with_reducible refine (put_more Ab nb cb pre _ HNB.out (hxb.below hb1) (by omega) hab r hr64).mono ?_; rintro e w2 ⟨A2, c2, rfl, hx2, hl2, hm2, ha2, hb2⟩; have hc2 := (World.cell?_of_block (a := ⟨b, off, none⟩) ((hb2.mono hb1.size).block _ hblt)).trans ((World.cell?_of_block (a := ⟨b, off, none⟩) (hb1.block _ hblt)).trans hc0))
        | (go_at_call 32; refine (put_more A2 _ c2 (pre ++ vput r) _ (by simp) hx2 (by have := HNB.out; simp; omega) (by simpa using ha2) x hx0).mono ?_; rintro e w3 ⟨A3, c3, rfl, hx3, hl3, hm3, ha3, hb3⟩))
      go_roundw
      case rel =>
        have hnb := HNB.out
        refine ⟨pre ++ vput r ++ vput x, (x :: l).drop r, _, nl - r, cl - r, A3, _, c3, rfl, ?_, by omega, ?_, by omega, by unfold maxLen; omega, fun v hv => hmt v (List.mem_of_mem_drop hv), rfl, ?_, hx3, ?_, hm3, ?_, ?_, ?_⟩
        · rw [List.length_drop, HNL.out]
        · refine ((hxl.below hb1).below hb2 |>.below hb3).cut r _ (fun hlt => ?_)
          have := HNL.out
          rw [if_neg (by omega), Option.map_some, Addr.add_lit]
        · simp
        · have := hl3; simpa using this
        · have := ha3; simpa using this
        · rw [← HPRE.out]; simp only [List.append_assoc]
        · exact hb.trans ((hb1.mono hb.size).trans ((hb2.mono (by have := hb.size; have := hb1.size; omega)).trans (hb3.mono (by have := hb.size; have := hb1.size; have := hb2.size; omega))))
      case measure =>
        show nl - r < nl
        omega
end Go.Proofs.YtocddhokjhfaaaaDoor

namespace Go.Proofs.YtocddhokjhfaaaaDoor
open Go.RowKit BitM
set_option linter.unusedVariables false

/-- Full words, the last one first. -/
def Chain (w : World) (base : Nat) : Option Addr → List Nat → Prop
  | f, [] => f = none
  | f, x :: r => ∃ b f', f = some ⟨b, 0, none⟩ ∧ base ≤ b ∧ w.heap[b]? = some (.cells #[.int .u64 (x : Int), .pointer f'] 80 (0, 0)) ∧ Chain w base f' r

theorem Chain.keep {w w' : World} {base : Nat} : ∀ {f : Option Addr} {ws : List Nat}, Chain w base f ws → (∀ b x f', base ≤ b → w.heap[b]? = some (.cells #[.int .u64 x, .pointer f'] 80 (0, 0)) → w'.heap[b]? = w.heap[b]?) → Chain w' base f ws
  | f, [], h, _ => h
  | f, x :: r, h, hk => by
    obtain ⟨b, f', h1, h2, h3, h4⟩ := h
    exact ⟨b, f', h1, h2, (hk b _ _ h2 h3).trans h3, Chain.keep h4 hk⟩
theorem Chain.mono {w : World} {base base' : Nat} (hb : base' ≤ base) : ∀ {f : Option Addr} {ws : List Nat}, Chain w base f ws → Chain w base' f ws
  | f, [], h => h
  | f, x :: r, h => by
    obtain ⟨b, f', h1, h2, h3, h4⟩ := h
    exact ⟨b, f', h1, Nat.le_trans hb h2, h3, Chain.mono hb h4⟩

/-- A Writer lies in block g. -/
def WrAt (w : World) (base g : Nat) (ws : List Nat) (r m : Nat) : Prop :=
  ∃ f, w.heap[g]? = some (.cells #[.pointer f, .int .u64 (r : Int), .int .i64 (m : Int)] 64 (0, 0)) ∧ base ≤ g ∧ m < 64 ∧ r < 18446744073709551616 ∧ (∀ x ∈ ws, x < 18446744073709551616) ∧ Chain w base f ws

theorem chain_other {w : World} {g : Nat} {f : Option Addr} {r m : Int} (hg : w.heap[g]? = some (.cells #[.pointer f, .int .u64 r, .int .i64 m] 64 (0, 0))) {b : Nat} {x : Int} {f' : Option Addr}
    (hb : w.heap[b]? = some (.cells #[.int .u64 x, .pointer f'] 80 (0, 0))) : b ≠ g := by
  rintro rfl
  rw [hg] at hb
  simp at hb

theorem WrAt.below {w w' : World} {base g : Nat} {ws : List Nat} {r m : Nat} (h : WrAt w base g ws r m) (hb : Below w.heap.size w w') : WrAt w' base g ws r m := by
  obtain ⟨f, h1, h2, h3, h4, h5, h6⟩ := h
  refine ⟨f, (hb.block g (Array.getElem?_eq_some_iff.1 h1).1).trans h1, h2, h3, h4, h5, h6.keep fun b x f' _ hx => hb.block b (Array.getElem?_eq_some_iff.1 hx).1⟩
theorem WrAt.beside {w w' : World} {base g : Nat} {ws : List Nat} {r m : Nat} (h : WrAt w base g ws r m) {q : Nat} (hg : w.grownBy w' (some q)) (hq : q < base) : WrAt w' base g ws r m := by
  obtain ⟨f, h1, h2, h3, h4, h5, h6⟩ := h
  exact ⟨f, (hg.block g (Array.getElem?_eq_some_iff.1 h1).1 (by simp; omega)).trans h1, h2, h3, h4, h5, h6.keep fun b x f' hbb hx => hg.block b (Array.getElem?_eq_some_iff.1 hx).1 (by simp; omega)⟩

theorem wput_nil (v : Int) (n : Int) (w : World) : Calls Tryd.prog 30 #[.pointer none, .int .u64 v, .int .i64 n] w fun e w' => e = .returned (.tuple #[]) ∧ w = w' := by
  go_enter Tryd.func30, Tryd.ntmps30
  go_wp2_with fail
  refine bodyPost_ret (results_none rfl _ _ _) rfl ?_
  exact ⟨rfl, rfl⟩

set_option maxHeartbeats 1000000 in
set_option maxRecDepth 100000 in
theorem wput_any (base g : Nat) (ws : List Nat) (r m v : Nat) (n : Int) (w : World) (h : WrAt w base g ws r m) (hv : v < 18446744073709551616) :
    Calls Tryd.prog 30 #[.pointer (some ⟨g, 0, none⟩), .int .u64 (v : Int), .int .i64 n] w fun e w' => e = .returned (.tuple #[]) ∧ (∃ ws' r' m', WrAt w' base g ws' r' m' ∧ wlen ws' m' = wlen ws m + wi n ∧ wval ws' r' m' = wval ws r m * 2 ^ wi n + v % 2 ^ wi n) ∧ w.grownBy w' (some g) := by
  obtain ⟨f, h1, hbg, hm, hr, hws, hch⟩ := h
  have c0 : w.cell? ⟨g, 0, none⟩ = some (.pointer f) := cell_of_row _ _ _ _ _ _ h1
  have c1 : w.cell? ⟨g, 1, none⟩ = some (.int .u64 (r : Int)) := cell_of_row _ _ _ _ _ _ h1
  have c2 : w.cell? ⟨g, 2, none⟩ = some (.int .i64 (m : Int)) := cell_of_row _ _ _ _ _ _ h1
  have f0 := frozen_of_row w g 0 _ _ h1
  have f1 := frozen_of_row w g 1 _ _ h1
  have f2 := frozen_of_row w g 2 _ _ h1
  have hlt := (Array.getElem?_eq_some_iff.1 h1).1
  have hwl := wi_le n
  obtain ⟨k, hk⟩ : ∃ k, k = wi n := ⟨_, rfl⟩
  rw [← hk] at hwl ⊢
  have HK := Lib.hid hk
  clear hk
  obtain ⟨u, hu⟩ : ∃ u, u = v % 2 ^ k := ⟨_, rfl⟩
  rw [← hu]
  have hul : u < 2 ^ k := by rw [hu]; exact Nat.mod_lt _ (Nat.pow_pos (by omega))
  have hand := and_low v k hv hwl
  rw [← hu] at hand
  have HAND := Lib.hid hand
  have H1 := Lib.hid h1
  have HCH := Lib.hid hch
  have HWS := Lib.hid hws
  have h64 : (2 : Nat) ^ k ≤ 2 ^ 64 := Nat.pow_le_pow_right (by omega) hwl
  clear hu hand h1 hch hws
  by_cases hroom : k < 64 - m
  · have hd : (k : Int) < 64 - (m : Int) := by omega
    go_enter Tryd.func30, Tryd.ntmps30
    go_wp2_with (first
      | (go_at_call 45; refine (within_any _ _).mono ?_; rw [← HK.out]; rintro e w1 ⟨rfl, rfl⟩)
      | (go_at_call 46; refine (low_any k hwl _).mono ?_; rintro e w2 ⟨rfl, rfl⟩))
    rw [HAND.out]
    have e1 : IntKind.u64.wrap ((r : Int) * 2 ^ k) = ((r * 2 ^ k % 2 ^ 64 : Nat) : Int) := by
      have : (r : Int) * 2 ^ k = ((r * 2 ^ k : Nat) : Int) := by simp
      rw [this, IntKind.wrap_u64]
      omega
    have e2 : ∃ q, r * 2 ^ k % 2 ^ 64 = q * 2 ^ k ∧ q * 2 ^ k + u < 18446744073709551616 := by
      have h2 : (2 : Nat) ^ 64 = 2 ^ (64 - k) * 2 ^ k := by rw [← Nat.pow_add]; congr 1; omega
      refine ⟨r % 2 ^ (64 - k), by rw [h2, Nat.mul_mod_mul_right], ?_⟩
      have h3 : r % 2 ^ (64 - k) < 2 ^ (64 - k) := Nat.mod_lt _ (Nat.pow_pos (by omega))
      have h4 : (r % 2 ^ (64 - k) + 1) * 2 ^ k ≤ 2 ^ (64 - k) * 2 ^ k := Nat.mul_le_mul_right _ h3
      rw [← h2, Nat.add_mul] at h4
      omega
    obtain ⟨q, hq, hq64⟩ := e2
    rw [e1, hq, or_join q u k hul hq64]
    have hmk : (m : Int) + (k : Int) = ((m + k : Nat) : Int) := by omega
    rw [hmk]
    refine bodyPost_ret (results_none rfl _ _ _) rfl ?_
    refine ⟨rfl, ⟨ws, q * 2 ^ k + u, m + k, ?_, ?_, ?_⟩, grown_set (grown_set (World.grownBy.refl w _) 1 _) 2 _⟩
    · refine ⟨f, ?_, hbg, by omega, hq64, HWS.out, HCH.out.keep fun b x f' _ hx => ?_⟩
      · have h2 := heap_setCell_same _ g 2 _ _ (.int .i64 ((m + k : Nat) : Int)) (heap_setCell_same w g 1 _ _ (.int .u64 ((q * 2 ^ k + u : Nat) : Int)) H1.out)
        rw [h2]
        rfl
      · have hne := chain_other H1.out hx
        rw [heap_setCell_other _ _ _ _ hne, heap_setCell_other _ _ _ _ hne]
    · unfold wlen; omega
    · have := put_room ws r m k u (by omega) hul
      rw [hq] at this
      exact this
  · have hd : ¬ (k : Int) < 64 - (m : Int) := by omega
    go_enter Tryd.func30, Tryd.ntmps30
    go_wp2_with (first
      | (go_at_call 45; refine (within_any _ _).mono ?_; rw [← HK.out]; rintro e w1 ⟨rfl, rfl⟩)
      | (go_at_call 46; refine (low_any k hwl _).mono ?_; rintro e w2 ⟨rfl, rfl⟩))
    obtain ⟨R, hR⟩ : ∃ R, R = 64 - m := ⟨_, rfl⟩
    obtain ⟨o, ho⟩ : ∃ o, o = k - R := ⟨_, rfl⟩
    have v1 : (k : Int) - (64 - (m : Int)) = (o : Int) := by omega
    have v2 : (64 : Int) - (m : Int) = (R : Int) := by omega
    rw [HAND.out, v1, v2]
    have hou : u / 2 ^ o < 2 ^ R := by
      rw [Nat.div_lt_iff_lt_mul (Nat.pow_pos (by omega)), ← Nat.pow_add]
      rw [show R + o = k by omega]
      exact hul
    have hwl2 := put_word_lt r m k u hm (by omega) hul
    rw [← hR, ← ho] at hwl2
    obtain ⟨q, hq⟩ : ∃ q, r * 2 ^ R % 2 ^ 64 = q * 2 ^ R := by
      have h2 : (2 : Nat) ^ 64 = 2 ^ (64 - R) * 2 ^ R := by rw [← Nat.pow_add]; congr 1; omega
      exact ⟨r % 2 ^ (64 - R), by rw [h2, Nat.mul_mod_mul_right]⟩
    have e1 : IntKind.u64.wrap ((r : Int) * 2 ^ R) = ((q * 2 ^ R : Nat) : Int) := by
      have : (r : Int) * 2 ^ R = ((r * 2 ^ R : Nat) : Int) := by simp
      rw [this, IntKind.wrap_u64, ← hq]
      omega
    have e2 : (u : Int) / 2 ^ o = ((u / 2 ^ o : Nat) : Int) := by simp
    obtain ⟨y, hy⟩ : ∃ y, y = u / 2 ^ o := ⟨_, rfl⟩
    rw [hq] at hwl2
    rw [← hy] at hou hwl2 e2
    obtain ⟨X, hX⟩ : ∃ X, X = q * 2 ^ R + y := ⟨_, rfl⟩
    have e3 := or_join q y R hou (by omega)
    rw [← hX] at e3
    have e3' : bits BinOp.or IntKind.u64 ((q : Int) * 2 ^ R) (y : Int) = (X : Int) := by
      have : (q : Int) * 2 ^ R = ((q * 2 ^ R : Nat) : Int) := by simp
      rw [this]
      exact e3
    have E3 := Lib.hid e3'
    clear e3 e3'
    have hu64 : u < 18446744073709551616 := by omega
    have hfull := put_full ws r m k u hm (by omega) hul
    rw [← hR, ← ho, hq, ← hy, ← hX] at hfull
    have hX64 : X < 18446744073709551616 := by omega
    have HFULL := Lib.hid hfull
    have HR := Lib.hid hR
    have HO := Lib.hid ho
    have hRo : (0 : Int) ≤ (R : Int) := by omega
    have hoo : (0 : Int) ≤ (o : Int) := by omega
    have hR64 : min R 64 = R := by omega
    have ho64 : min o 64 = o := by omega
    clear hfull hR ho hq hy hX v1 v2 hwl2 hou hul hd hroom
    go_region
    rw [E3.out]
    have hz1 : (((w.setCell ⟨g, 0, none⟩ (.pointer (some ⟨w.heap.size, 0, none⟩))).alloc (.cells #[.int .u64 (X : Int), .pointer f] 80)).drew).heap[g]? = some (.cells #[.pointer (some ⟨w.heap.size, 0, none⟩), .int .u64 (r : Int), .int .i64 (m : Int)] 64 (0, 0)) := by
      have h2 := heap_setCell_same w g 0 _ _ (.pointer (some ⟨w.heap.size, 0, none⟩)) H1.out
      refine (Below.heap_alloc _ _ g (by simpa using hlt)).trans ?_
      rw [h2]
      rfl
    have hz2 : (((w.setCell ⟨g, 0, none⟩ (.pointer (some ⟨w.heap.size, 0, none⟩))).alloc (.cells #[.int .u64 (X : Int), .pointer f] 80)).drew).heap[w.heap.size]? = some (.cells #[.int .u64 (X : Int), .pointer f] 80 (0, 0)) := by
      have := heap_alloc_new (w.setCell ⟨g, 0, none⟩ (.pointer (some ⟨w.heap.size, 0, none⟩))) (.cells #[.int .u64 (X : Int), .pointer f] 80)
      have hs : (w.setCell ⟨g, 0, none⟩ (.pointer (some ⟨w.heap.size, 0, none⟩))).heap.size = w.heap.size := by simp
      rw [hs] at this
      exact this
    have hz3 : w.grownBy (((w.setCell ⟨g, 0, none⟩ (.pointer (some ⟨w.heap.size, 0, none⟩))).alloc (.cells #[.int .u64 (X : Int), .pointer f] 80)).drew) (some g) := by
      have h1 := grown_set (World.grownBy.refl w (some g)) 0 (.pointer (some ⟨w.heap.size, 0, none⟩))
      exact grown_below_any h1 (((Below.refl _ _).alloc (Nat.le_refl _) _).drew)
    have hz4 := HCH.out.keep (w' := ((w.setCell ⟨g, 0, none⟩ (.pointer (some ⟨w.heap.size, 0, none⟩))).alloc (.cells #[.int .u64 (X : Int), .pointer f] 80)).drew) fun b x f' _ hx => hz3.block b (Array.getElem?_eq_some_iff.1 hx).1 (by simp; exact fun e => chain_other H1.out hx e)
    generalize ((w.setCell ⟨g, 0, none⟩ (.pointer (some ⟨w.heap.size, 0, none⟩))).alloc (.cells #[.int .u64 (X : Int), .pointer f] 80)).drew = wz at *
    clear c0 c1 c2 f0 f1 f2
    have c1 : wz.cell? ⟨g, 1, none⟩ = some (.int .u64 (r : Int)) := cell_of_row _ _ _ _ _ _ hz1
    have c2 : wz.cell? ⟨g, 2, none⟩ = some (.int .i64 (m : Int)) := cell_of_row _ _ _ _ _ _ hz1
    have f1 := frozen_of_row wz g 1 _ _ hz1
    have f2 := frozen_of_row wz g 2 _ _ hz1
    have HZ1 := Lib.hid hz1
    have HZ2 := Lib.hid hz2
    have HZ4 := Lib.hid hz4
    clear hz1 hz2 hz4
    go_wp2_with fail
    refine bodyPost_end (results_none rfl _ _ _) rfl ?_
    refine ⟨rfl, ⟨X :: ws, u, o, ?_, ?_, ?_⟩, grown_set (grown_set hz3 1 _) 2 _⟩
    · refine ⟨some ⟨w.heap.size, 0, none⟩, ?_, hbg, by have := HO.out; have := HR.out; omega, hu64, ?_, ?_⟩
      · have h2 := heap_setCell_same _ g 2 _ _ (.int .i64 (o : Int)) (heap_setCell_same wz g 1 _ _ (.int .u64 (u : Int)) HZ1.out)
        rw [h2]
        rfl
      · intro x hx
        rcases List.mem_cons.1 hx with rfl | hx
        · exact hX64
        · exact HWS.out x hx
      · have hne : w.heap.size ≠ g := by omega
        refine ⟨w.heap.size, f, rfl, by omega, ?_, ?_⟩
        · rw [heap_setCell_other _ _ _ _ hne, heap_setCell_other _ _ _ _ hne]
          exact HZ2.out
        · refine HZ4.out.keep fun b x f' _ hx => ?_
          have hne := chain_other HZ1.out hx
          rw [heap_setCell_other _ _ _ _ hne, heap_setCell_other _ _ _ _ hne]
    · have := HO.out; have := HR.out; unfold wlen; rw [List.length_cons]; omega
    · exact HFULL.out
end Go.Proofs.YtocddhokjhfaaaaDoor

namespace Go.Proofs.YtocddhokjhfaaaaDoor
open Go.RowKit VarM RunM
set_option linter.unusedVariables false

end Go.Proofs.YtocddhokjhfaaaaDoor

namespace Go.Proofs.YtocddhokjhfaaaaDoor
open Go.RowKit VarM RunM
set_option linter.unusedVariables false

/-- An own slice of numbers. -/
def OwnN (w : World) (base : Nat) (v : Value) (ns : List Nat) : Prop := OwnV w base v 22 (ns.map uv)
theorem OwnN.nats {w : World} {base : Nat} {A : Option Addr} {n c : Nat} {ns : List Nat} (h : OwnN w base (.slice A n c) ns) : NatsAt w A ns := h.bytes
theorem OwnN.caps {w : World} {base : Nat} {A : Option Addr} {n c : Nat} {ns : List Nat} (h : OwnN w base (.slice A n c) ns) : ns.length = n ∧ n ≤ c ∧ c ≤ maxLen ∧ (A = none → n = 0 ∧ c = 0) := by
  have := OwnV.caps h
  simpa using this

theorem results_tmp4 {fn : Func} {t u v x : Tmp} (h : fn.results = #[.tmp t, .tmp u, .tmp v, .tmp x]) (tmps : Array Value) (P : Program) (w : World) :
    (results fn tmps).run P w = .ok (.tuple #[tmps.getD t undef, tmps.getD u undef, tmps.getD v undef, tmps.getD x undef]) w := by
  simp [results, h]

set_option maxRecDepth 100000 in
theorem run_any (A : Option Addr) (n c : Nat) (X rest : List UInt8) (w : World) (m v q : Nat) (hX : X = vput m ++ (vput v ++ rest)) (hq : q = (vput m).length + (vput v).length) (hn : X.length = n) (hx : BytesAt w A X) (hm : m < 18446744073709551616) (hv : v < 18446744073709551616) (hc : n ≤ c) (hcm : c ≤ maxLen) :
    Calls Tryd.prog 70 #[.slice A n c] w fun e w' => e = .returned (.tuple #[.int .u64 (m : Int), .int .u64 (v : Int), .int .i64 (q : Int), .int .i64 0]) ∧ w = w' := by
  obtain ⟨q1, hq1⟩ : ∃ q1, q1 = (vput m).length := ⟨_, rfl⟩
  obtain ⟨q2, hq2⟩ : ∃ q2, q2 = (vput v).length := ⟨_, rfl⟩
  have hp1 := vput_len_pos m
  have hp2 := vput_len_pos v
  have hXl : n = q1 + (q2 + rest.length) := by rw [← hn, hX, List.length_append, List.length_append, hq1, hq2]
  obtain ⟨b, off, rfl, hcc⟩ := hx (by intro h; rw [h] at hn; simp at hn; omega)
  have hx : BytesAt w (some ⟨b, off, none⟩) X := fun _ => ⟨b, off, rfl, hcc⟩
  have hcut := hx.cut q1 (some ⟨b, off + q1, none⟩) (fun _ => by rw [Option.map_some, Addr.add_lit])
  have hdr : X.drop q1 = vput v ++ rest := by rw [hX, hq1, List.drop_left']; rfl
  rw [hdr] at hcut
  rw [← hq1, ← hq2] at hq
  rw [← hq1] at hp1
  rw [← hq2] at hp2
  unfold maxLen at hcm
  have h1 : q1 ≤ n := by omega
  have h2 : ¬ c = q1 := by omega
  have h3 : (q1 : Int) + (q2 : Int) = (q : Int) := by omega
  have hln : (vput v ++ rest).length = n - q1 := by rw [List.length_append, ← hq2]; omega
  have hq20 : q ≤ 20 := by have := vput_len10 hm; have := vput_len10 hv; omega
  have HX := Lib.hid hX
  have HN := Lib.hid hn
  have HQ1 := Lib.hid hq1
  have HQ2 := Lib.hid hq2
  have HXL := Lib.hid hXl
  have HLN := Lib.hid hln
  have HQ := Lib.hid hq
  clear hX hn hq1 hq2 hXl hcc hdr hln hq
  go_enter Tryd.func70, Tryd.ntmps70
  go_wp2_with (first
    | (go_at_call 56; with_reducible refine (get_more (some ⟨b, off, none⟩) n c X (vput v ++ rest) _ m q1 HQ1.out HX.out HN.out hx hm).mono ?_; rintro e w1 ⟨rfl, rfl⟩)
    | (go_at_call 56; with_reducible refine (get_more (some ⟨b, off + q1, none⟩) (n - q1) (c - q1) (vput v ++ rest) rest _ v q2 HQ2.out rfl HLN.out hcut hv).mono ?_; rintro e w2 ⟨rfl, rfl⟩))
  refine bodyPost_ret (results_tmp4 rfl _ _ _) rfl ?_
  exact ⟨rfl, rfl⟩

set_option maxRecDepth 100000 in
theorem continues_no (A : Option Addr) (n c : Nat) (ns : List Nat) (w : World) (v : Nat) (hn : ns.length = n) (hx : NatsAt w A ns) (hl : n ≤ 100000000) (hv : v < 18446744073709551616) (hlast : ∀ y, ns.getLast? = some y → y ≠ v) :
    Calls Tryd.prog 71 #[.slice A n c, .int .u64 (v : Int)] w fun e w' => e = .returned (.bool false) ∧ w = w' := by
  subst hn
  by_cases h0 : ns = []
  · subst h0
    go_enter Tryd.func71, Tryd.ntmps71
    go_wp2_with fail
    go_ret
    exact ⟨rfl, rfl⟩
  · obtain ⟨b, off, rfl⟩ := hx.addr h0
    have hpos : 0 < ns.length := List.length_pos_iff.2 h0
    have hc := hx.cell (ns.length - 1) (by omega)
    have hy := hlast (ns[ns.length - 1]) (by rw [List.getLast?_eq_getElem?]; simp [hpos])
    generalize ns[ns.length - 1] = y at *
    have hne : ((y : Int) == (v : Int)) = false := by simp; omega
    obtain ⟨t, ht⟩ : ∃ t, t = ns.length - 1 := ⟨_, rfl⟩
    rw [← ht] at hc
    have ht2 : (ns.length : Int) - 1 = (t : Int) := by omega
    have ht3 : t < ns.length := by omega
    clear hlast hy h0 ht
    go_enter Tryd.func71, Tryd.ntmps71
    go_wp2_with fail
    go_ret
    exact ⟨rfl, rfl⟩

theorem sub64 (n m : Nat) (h1 : m ≤ n) (h2 : n ≤ 200) : IntKind.u64.wrap ((n : Int) - (m : Int)) = ((n - m : Nat) : Int) := by rw [IntKind.wrap_u64]; omega

set_option maxHeartbeats 1000000 in
set_option maxRecDepth 100000 in
theorem runGet_any (A : Option Addr) (len c n : Nat) (X rest : List UInt8) (ns : List Nat) (w : World) (hX : X = rput ns ++ rest) (hlen : X.length = len) (hx : BytesAt w A X) (hc : len ≤ c) (hcm : c ≤ maxLen) (hn : ns.length = n) (hl : n ≤ 200) (hm : ∀ v ∈ ns, v < 18446744073709551616) :
    Calls Tryd.prog 63 #[.slice A len c, .int .i64 (n : Int)] w fun e w' => ∃ A' c', e = .returned (.tuple #[.slice A' n c', .int .i64 ((rput ns).length : Int), .int .i64 0]) ∧ NatsAt w' A' ns ∧ Below w.heap.size w w' := by
  have hrl := rput_len n ns (by omega) hm (by omega)
  obtain ⟨z, hz⟩ : ∃ z, z = (rput ns).length := ⟨_, rfl⟩
  rw [← hz] at hrl ⊢
  have hz4 : z ≤ 4000 := by omega
  have hzl : z ≤ len := by rw [← hlen, hX, List.length_append]; omega
  have HX := Lib.hid hX
  have HLEN := Lib.hid hlen
  have HN := Lib.hid hn
  have HM := Lib.hid hm
  have HZ := Lib.hid hz
  unfold maxLen at hcm
  have hd1 : ¬ (n : Int) < 0 := by omega
  have hd2 : ¬ (200 : Int) < (n : Int) := by omega
  clear hX hlen hn hm hz hrl
  go_enter Tryd.func63, Tryd.ntmps63
  go_wp2_with fail
  go_loopw [7, 8] (fun l s wr => ∃ (done todo : List Nat) (pre : List UInt8) (k nl cl : Nat) (Al : Option Addr), s = .int .i64 k ∧ l = .slice Al nl cl ∧ OwnN wr w.heap.size (.slice Al nl cl) done ∧ nl ≤ n ∧ k ≤ z ∧ done ++ todo = ns ∧ pre.length = k ∧ pre ++ rput todo = rput ns ∧
      (∀ x y, done.getLast? = some y → todo.head? = some x → y ≠ x) ∧ Below w.heap.size w wr) (fun l _ _ => match l with | .slice _ k _ => n - k | _ => 0)
  case atStart => exact ⟨[], ns, [], 0, 0, 0, none, rfl, rfl, OwnV.nil _ _ _, by omega, by omega, rfl, rfl, rfl, fun x y h => by simp at h, Below.refl _ _⟩
  case round =>
    obtain ⟨done, todo, pre, k, nl, cl, Al, rfl, rfl, ho, hnl, hkz, hdt, hpk, hpre, hbd, hb⟩ := hrel
    obtain ⟨hdl, hnc, hcl, hal⟩ := ho.caps
    by_cases hlt : nl < n
    · have htl : todo.length = n - nl := by
        have h1 := congrArg List.length hdt
        rw [List.length_append, hdl, HN.out] at h1
        omega
      obtain ⟨x, l, rfl⟩ : ∃ x l, todo = x :: l := by
        cases todo with
        | nil => simp at htl; omega
        | cons x l => exact ⟨x, l, rfl⟩
      have hx0 : x < 18446744073709551616 := HM.out x (by rw [← hdt]; simp)
      obtain ⟨r, hr⟩ : ∃ r, r = runLen (x :: l) := ⟨_, rfl⟩
      have hr1 : 1 ≤ r := hr ▸ runLen_pos x l
      have hrl : r ≤ n - nl := by rw [← htl]; exact hr ▸ runLen_le (x :: l)
      have hr64 : r < 18446744073709551616 := by omega
      have hput := rput_cons x l
      rw [← hr] at hput
      obtain ⟨q, hq⟩ : ∃ q, q = (vput r).length + (vput x).length := ⟨_, rfl⟩
      have hq1 := vput_len_pos r
      have hlz : k + (q + (rput ((x :: l).drop r)).length) = z := by
        have h1 := congrArg List.length hpre
        rw [hput, List.length_append, List.length_append, List.length_append, hpk, ← HZ.out] at h1
        omega
      have hkl : k < len := by omega
      have hXk : X.drop k = vput r ++ (vput x ++ (rput ((x :: l).drop r) ++ rest)) := by
        rw [HX.out, ← hpre, List.append_assoc, ← hpk, List.drop_left', hput]
        · simp only [List.append_assoc]
        · rfl
      have hxb := hx.below hb
      obtain ⟨b, off, rfl, _⟩ := hx (by intro h; have := HLEN.out; rw [h] at this; simp at this; omega)
      have hcutk := hxb.cut k (some ⟨b, off + k, none⟩) (fun _ => by rw [Option.map_some, Addr.add_lit])
      have hlk : (X.drop k).length = len - k := by rw [List.length_drop, HLEN.out]
      have hck : ¬ c = k := by omega
      have hqz : k + q ≤ z := by omega
      have hlast : ∀ y, done.getLast? = some y → y ≠ x := fun y hy => hbd x y hy rfl
      have hsub := sub64 n nl hnl hl
      have hnr : decide (n - nl < r) = false := by simp; omega
      have hr0 : ((r : Int) == 0) = false := by simp; omega
      have HDT := Lib.hid hdt
      have HTL := Lib.hid htl
      have HR := Lib.hid hr
      have HPRE := Lib.hid hpre
      have HPK := Lib.hid hpk
      have HPUT := Lib.hid hput
      have HQ := Lib.hid hq
      have HXK := Lib.hid hXk
      have HLK := Lib.hid hlk
      have HBD := Lib.hid hbd
      have HDL := Lib.hid hdl
      have HLZ := Lib.hid hlz
      clear hdt htl hr hpre hpk hput hq hXk hlk hbd hdl hlz hq1
      go_wp2_with (first
        | (go_at_call 70; with_reducible refine (run_any (some ⟨b, off + k, none⟩) (len - k) (c - k) (X.drop k) _ _ r x q HXK.out HQ.out HLK.out hcutk hr64 hx0 (by omega) (by unfold maxLen; omega)).mono ?_; rintro e w1 ⟨rfl, rfl⟩)
        | (go_at_call 71; with_reducible refine (continues_no Al nl cl done _ x HDL.out ho.nats (by omega) hx0 hlast).mono ?_; rintro e w2 ⟨rfl, rfl⟩))
      clear hsub hr0 hlast
      go_loopw [7, 52] (fun v i wr2 => ∃ (j n2 c2 : Nat) (A2 : Option Addr) (ds : List Nat), j ≤ r ∧ i = .int .u64 j ∧ v = .slice A2 n2 c2 ∧ Hid (n2 = nl + j) ∧ Hid (ds = done ++ List.replicate j x) ∧ OwnN wr2 w.heap.size (.slice A2 n2 c2) ds ∧ Below w.heap.size w wr2) (fun _ i _ => r - (intOf i).toNat)
      case atStart => exact ⟨0, nl, cl, Al, done, by omega, rfl, rfl, Lib.hid rfl, Lib.hid (by simp), ho, hb⟩
      case round =>
        obtain ⟨j, n2, c2, A2, ds, hj, rfl, rfl, HN2, HDS, ho2, hb2⟩ := hrel
        have hn2 := HN2.out
        by_cases hjr : j < r
        · obtain ⟨d1, d2, d3, d4⟩ := ho2.caps
          have hds2 : ds.map uv ++ [uv x] = (ds ++ [x]).map uv := by simp
          have hl1 : ((ds.map uv).length + 1) * 8 ≤ 140737488355328 := by rw [List.length_map]; omega
          have hl2 : (ds.map uv).length + 1 ≤ maxLen := by rw [List.length_map]; unfold maxLen; omega
          have hl3 : ((ds ++ [x]).map uv).length = n2 + 1 := by simp [d1]
          have HDS2 := Lib.hid hds2
          have HL3 := Lib.hid hl3
          have HD1 := Lib.hid d1
          clear hds2 hl3 d1 d2 d3 d4 hn2
          go_wp2_with (at_builtin; refine wpList_append_vz rfl (.tmp 54) (.tmp 56) 55 rfl Tryd.underlying55 _ 8 infoU64 rfl rfl (OwnV.alloc ho2 _) _ _ 1 [uv x] ((ds ++ [x]).map uv) rfl rfl (cellsAt_one _ _ _ _ rfl) (uv_one [x]) HDS2.out hl1 hl2 (by have := hb2.size; simp; omega) ?_; rw [HL3.out]; intro A3 c3 w3 ho3 hg3)
          go_roundw
          case rel =>
            refine ⟨j + 1, n2 + 1, c3, A3, ds ++ [x], by omega, by go_num, rfl, Lib.hid (by have := HN2.out; omega), ?_, ho3, (OwnV.alloc ho2 _).belowGrown (Nat.le_refl _) (by have := hb2.size; simp; omega) (below_alloc (Nat.le_refl _) hb2 _) hg3⟩
            refine Lib.hid ?_
            rw [HDS.out, List.append_assoc]
            congr 1
            rw [← List.replicate_succ']
          case measure => simp [intOf]; omega
        · obtain rfl : j = r := by omega
          clear hn2
          go_wp2_with fail
          go_roundw
          case rel =>
            have hw := take_run x l
            rw [← HR.out] at hw
            have e1 : ds ++ (x :: l).drop j = ns := by
              rw [HDS.out, ← hw, List.append_assoc, List.take_append_drop, HDT.out]
            refine ⟨ds, (x :: l).drop j, pre ++ (vput j ++ vput x), k + q, n2, c2, A2, by go_num, rfl, ho2, by have := HN2.out; omega, hqz, e1, ?_, ?_, ?_, hb2⟩
            · rw [List.length_append, HPK.out, List.length_append, ← HQ.out]
            · rw [← HPRE.out, HPUT.out]; simp only [List.append_assoc]
            · intro y z hy hz
              have hz2 : z = x := by
                rw [HDS.out] at hy
                have : (done ++ List.replicate j x).getLast? = some x := by
                  obtain ⟨i, rfl⟩ : ∃ i, j = i + 1 := ⟨j - 1, by omega⟩
                  rw [List.replicate_succ', ← List.append_assoc, List.getLast?_concat]
                rw [this] at hy
                exact (Option.some.inj hy).symm
              rw [hz2]
              rw [List.head?_drop] at hz
              obtain ⟨h1, h2⟩ := List.getElem?_eq_some_iff.1 hz
              have h3 := runLen_next x l (by rw [← HR.out]; exact h1)
              intro h4
              apply h3
              have : (x :: l)[runLen (x :: l)]'(by rw [← HR.out]; exact h1) = (x :: l)[j] := by congr 1; exact HR.out.symm
              rw [this, h2, h4]
          case measure =>
            have := HN2.out
            show n - n2 < n - nl
            omega
    · obtain rfl : nl = n := by omega
      have htl : todo = [] := by
        have h1 := congrArg List.length hdt
        rw [List.length_append, hdl, HN.out] at h1
        exact List.eq_nil_of_length_eq_zero (by omega)
      subst htl
      rw [List.append_nil] at hdt
      subst hdt
      rw [rput_nil, List.append_nil] at hpre
      have hkk : k = z := by rw [← hpk, hpre, HZ.out]
      subst hkk
      clear hpre hpk hdl hz4 hzl hal hnc hcl hbd
      go_wp2_with fail
      go_ret3
      exact ⟨Al, cl, rfl, ho.nats, hb⟩
end Go.Proofs.YtocddhokjhfaaaaDoor

namespace Go.Proofs.YtocddhokjhfaaaaDoor
open Go.RowKit
set_option linter.unusedVariables false

/-- The first t and the last t places are changed over. -/
def turned (ns : List Nat) (t : Nat) : List Nat := (List.range ns.length).map fun i => if i < t ∨ ns.length - t ≤ i then ns.getD (ns.length - 1 - i) 0 else ns.getD i 0
theorem turned_len (ns : List Nat) (t : Nat) : (turned ns t).length = ns.length := by simp [turned]
theorem turned_get (ns : List Nat) (t i : Nat) (h : i < (turned ns t).length) : (turned ns t)[i] = if i < t ∨ ns.length - t ≤ i then ns.getD (ns.length - 1 - i) 0 else ns.getD i 0 := by simp [turned]
theorem turned_zero (ns : List Nat) : turned ns 0 = ns := by
  apply List.ext_getElem
  · exact turned_len ns 0
  · intro i h1 h2
    rw [turned_get, if_neg (by omega)]
    simp [h2]
theorem turned_all (ns : List Nat) (t : Nat) (h : ns.length ≤ 2 * t + 1) : turned ns t = ns.reverse := by
  apply List.ext_getElem
  · rw [turned_len, List.length_reverse]
  · intro i h1 h2
    rw [turned_len] at h1
    rw [turned_get, List.getElem_reverse]
    by_cases h3 : i < t ∨ ns.length - t ≤ i
    · rw [if_pos h3, List.getD_eq_getElem?_getD, List.getElem?_eq_getElem (by omega), Option.getD_some]
    · rw [if_neg h3, List.getD_eq_getElem?_getD, List.getElem?_eq_getElem (by omega), Option.getD_some]
      congr 1
      omega
theorem turned_step (ns : List Nat) (t : Nat) (h : t < ns.length - 1 - t) (a b : Nat) (ha : a = ns.getD t 0) (hb : b = ns.getD (ns.length - 1 - t) 0) :
    ((turned ns t).set t b).set (ns.length - 1 - t) a = turned ns (t + 1) := by
  apply List.ext_getElem
  · simp [turned_len]
  · intro i h1 h2
    rw [turned_len] at h2
    rw [List.getElem_set, List.getElem_set, turned_get, turned_get]
    by_cases e1 : ns.length - 1 - t = i
    · rw [if_pos e1, if_pos (by omega), ha]
      congr 1
      omega
    · rw [if_neg e1]
      by_cases e2 : t = i
      · rw [if_pos e2, if_pos (by omega), hb, e2]
      · rw [if_neg e2]
        by_cases e3 : i < t ∨ ns.length - t ≤ i
        · rw [if_pos e3, if_pos (by omega)]
        · rw [if_neg e3, if_neg (by omega)]

set_option maxHeartbeats 1000000 in
set_option maxRecDepth 100000 in
theorem reverse_any (base g n c : Nat) (ns : List Nat) (w : World) (ho : OwnN w base (.slice (some ⟨g, 0, none⟩) n c) ns) (hl : n ≤ 100000000) :
    Calls Tryd.prog 47 #[.slice (some ⟨g, 0, none⟩) n c] w fun e w' => e = .returned (.tuple #[]) ∧ OwnN w' base (.slice (some ⟨g, 0, none⟩) n c) ns.reverse ∧ Below base w w' := by
  have hn := ho.caps.1
  have hn1 : IntKind.i64.wrap ((n : Int) - 1) = (n : Int) - 1 := IntWalk.i64_in _ (by omega)
  go_enter Tryd.func47, Tryd.ntmps47
  go_wp2_with fail
  go_loopw [2, 3] (fun i j wr => ∃ t : Nat, 2 * t ≤ n ∧ i = .int .i64 (t : Int) ∧ j = .int .i64 ((n : Int) - 1 - (t : Int)) ∧ OwnN wr base (.slice (some ⟨g, 0, none⟩) n c) (turned ns t) ∧ Below base w wr) (fun i _ _ => n - (intOf i).toNat)
  case atStart => exact ⟨0, by omega, rfl, by congr 1; omega, by rw [turned_zero]; exact ho, Below.refl _ _⟩
  case round =>
    obtain ⟨t, ht, rfl, rfl, hot, hb⟩ := hrel
    by_cases hlt : (t : Int) < (n : Int) - 1 - (t : Int)
    · obtain ⟨u, hu⟩ : ∃ u, u = n - 1 - t := ⟨_, rfl⟩
      have hui : (n : Int) - 1 - (t : Int) = (u : Int) := by omega
      rw [hui] at hlt ⊢
      obtain ⟨r1, r2, r3, r4, r5, r6, r7⟩ := OwnV.row hot
      have tl := turned_len ns t
      have ct := r6 t (by rw [r2]; omega)
      have cu := r6 u (by rw [r2]; omega)
      rw [List.getElem_map, turned_get, if_neg (by omega)] at ct cu
      have ft := r7 t
      have fu := r7 u
      obtain ⟨a, ha⟩ : ∃ a, a = ns.getD t 0 := ⟨_, rfl⟩
      obtain ⟨b, hbv⟩ : ∃ b, b = ns.getD u 0 := ⟨_, rfl⟩
      rw [← ha] at ct
      rw [← hbv] at cu
      unfold uv at ct cu
      have hst := turned_step ns t (by omega) a b ha (by rw [hbv, hu, hn])
      rw [hn, ← hu] at hst
      have hut : ¬ u = t := by omega
      have htu : ¬ t = u := by omega
      have htn : t < n := by omega
      have hun : u < n := by omega
      have HU := Lib.hid hu
      have HST := Lib.hid hst
      clear r6 r7 hui hst ha hbv hu
      go_wp2_with fail
      go_region
      go_wp2_with fail
      go_roundw
      case rel =>
        have h1 := OwnV.stored (OwnV.stored hot t (uv b)) u (uv a)
        have h2 : (((turned ns t).map uv).set t (uv b)).set u (uv a) = (turned ns (t + 1)).map uv := by rw [← HST.out, List.map_set, List.map_set]
        rw [h2] at h1
        have hu := HU.out
        refine ⟨t + 1, by omega, by go_num, ?_, h1, ?_⟩
        · congr 1
          omega
        · exact ((hb.setCell r1 _).setCell r1 _).drew
      case measure => simp [intOf]; omega
    · go_wp2_with fail
      refine bodyPost_end (results_none rfl _ _ _) rfl ?_
      have := turned_all ns t (by omega)
      rw [this] at hot
      exact ⟨rfl, hot, hb⟩
end Go.Proofs.YtocddhokjhfaaaaDoor

namespace Go.Proofs.YtocddhokjhfaaaaDoor
open Go.RowKit BitM
set_option linter.unusedVariables false

theorem wbytes_nil (w : World) : Calls Tryd.prog 31 #[.pointer none] w fun e w' => e = .returned (.slice none 0 0) ∧ w = w' := by
  go_enter Tryd.func31, Tryd.ntmps31
  go_wp2_with fail
  go_ret
  exact ⟨rfl, rfl⟩

theorem byte_of_word (v j : Nat) (h : j < (beN v 8).length) (s : Nat) (hs : s = 56 - 8 * j) : ((v : Int) / 2 ^ s) % 256 = (((beN v 8)[j]).toNat : Int) := by
  rw [length_beN] at h
  have e : ((v : Int) / 2 ^ s) = ((v / 2 ^ s : Nat) : Int) := by simp
  have e2 : (256 : Nat) ^ (8 - 1 - j) = 2 ^ s := by rw [show (256 : Nat) = 2 ^ 8 from rfl, ← Nat.pow_mul]; congr 1; omega
  rw [e, beN_get, UInt8.toNat_ofNat', e2]
  omega
theorem words_take (us : List Nat) (k : Nat) (h : k < us.length) : wordsB (us.take (k + 1)) = wordsB (us.take k) ++ beN us[k] 8 := by rw [List.take_succ_eq_append_getElem h, wordsB_snoc]
theorem length_words (us : List Nat) : (wordsB us).length = 8 * us.length := by
  induction us with
  | nil => rfl
  | cons u us ih => simp only [wordsB, List.flatMap_cons, List.length_append, length_beN, List.length_cons] at *; omega

theorem take_step (xs : List UInt8) (j : Nat) (h : j < xs.length) : xs.take (j + 1) = xs.take j ++ [xs[j]] := List.take_succ_eq_append_getElem h

set_option maxHeartbeats 1000000 in
set_option maxRecDepth 100000 in
theorem wbytes_any (base g : Nat) (ws : List Nat) (r m : Nat) (w : World) (h : WrAt w base g ws r m) (hl : ws.length ≤ 1000000) :
    Calls Tryd.prog 31 #[.pointer (some ⟨g, 0, none⟩)] w fun e w' => ∃ A' n' c', e = .returned (.slice A' n' c') ∧ n' = (wlen ws m + 7) / 8 ∧ BytesAt w' A' (bytesW (wlen ws m) (wval ws r m)) ∧ n' ≤ c' ∧ c' ≤ maxLen ∧ (∀ a, A' = some a → w.heap.size ≤ a.block) ∧ Below w.heap.size w w' := by
  obtain ⟨f, h1, hbg, hm, hr, hws, hch⟩ := h
  have c0 : w.cell? ⟨g, 0, none⟩ = some (.pointer f) := cell_of_row _ _ _ _ _ _ h1
  have c1 : w.cell? ⟨g, 1, none⟩ = some (.int .u64 (r : Int)) := cell_of_row _ _ _ _ _ _ h1
  have c2 : w.cell? ⟨g, 2, none⟩ = some (.int .i64 (m : Int)) := cell_of_row _ _ _ _ _ _ h1
  have hlt := (Array.getElem?_eq_some_iff.1 h1).1
  obtain ⟨R, hR⟩ : ∃ R, R = 64 - m := ⟨_, rfl⟩
  obtain ⟨x, hx⟩ : ∃ x, x = r * 2 ^ R % 2 ^ 64 := ⟨_, rfl⟩
  have v2 : (64 : Int) - (m : Int) = (R : Int) := by omega
  have hwx : IntKind.u64.wrap ((r : Int) * 2 ^ R) = (x : Int) := by
    have : (r : Int) * 2 ^ R = ((r * 2 ^ R : Nat) : Int) := by simp
    rw [this, IntKind.wrap_u64, hx]
    omega
  have hx64 : x < 18446744073709551616 := by rw [hx]; omega
  have hR64 : R ≤ 64 := by omega
  have hR0 : (0 : Int) ≤ (R : Int) := by omega
  have hall := bytes_all ws r m hm hws
  rw [← hR, ← hx] at hall
  have H1 := Lib.hid h1
  have HALL := Lib.hid hall
  have HX := Lib.hid hx
  have HR := Lib.hid hR
  have HWX := Lib.hid hwx
  clear h1 hx hR hwx hall
  go_enter Tryd.func31, Tryd.ntmps31
  go_wp2_with fail
  rw [HWX.out]
  have ho1 : OwnN (w.alloc (.cells #[.int .u64 (x : Int)] 22)) w.heap.size (.slice (some ⟨w.heap.size, 0, none⟩) 1 1) [x] := OwnV.new w 22 [uv x] w.heap.size (Nat.le_refl _) (by unfold maxLen; simp)
  have hb1 : Below w.heap.size w (w.alloc (.cells #[.int .u64 (x : Int)] 22)) := (Below.refl _ _).alloc (Nat.le_refl _) _
  have hkc : ∀ wr f ws, Below w.heap.size w wr → Chain w base f ws → Chain wr base f ws := fun wr f ws hb hc => hc.keep fun b x f' _ hx => hb.block b (Array.getElem?_eq_some_iff.1 hx).1
  have HKC := Lib.hid hkc
  have HWS := Lib.hid hws
  clear hkc hws c0 c1 c2
  go_loopw [4, 5] (fun wd fv wr => ∃ (done rest : List Nat) (fa A : Option Addr) (n c : Nat), fv = .pointer fa ∧ wd = .slice A n c ∧ Hid (n = done.length + 1) ∧ OwnN wr w.heap.size (.slice A n c) (x :: done) ∧ Hid (done ++ rest = ws) ∧ Chain w base fa rest ∧ Below w.heap.size w wr) (fun wd _ _ => match wd with | .slice _ k _ => ws.length + 1 - k | _ => 0)
  case atStart => exact ⟨[], ws, f, _, 1, 1, rfl, rfl, Lib.hid rfl, ho1, Lib.hid rfl, hch, hb1⟩
  case round =>
    obtain ⟨done, rest, fa, A, n, c, rfl, rfl, HN, ho, HD, hc, hb⟩ := hrel
    cases rest with
    | cons y rest =>
      obtain ⟨b, f', rfl, hbb, hbw, hc'⟩ := hc
      have hbr : wr.heap[b]? = some (.cells #[.int .u64 (y : Int), .pointer f'] 80 (0, 0)) := (hb.block b (Array.getElem?_eq_some_iff.1 hbw).1).trans hbw
      have d0 : wr.cell? ⟨b, 0, none⟩ = some (.int .u64 (y : Int)) := cell_of_row _ _ _ _ _ _ hbr
      have hblt := (Array.getElem?_eq_some_iff.1 hbr).1
      have hnl : n ≤ 1000000 := by
        have h1 := congrArg List.length HD.out
        have h2 := HN.out
        simp at h1
        omega
      have hvz : (x :: done).map uv ++ [uv y] = (x :: (done ++ [y])).map uv := by simp
      have hl3 : ((x :: (done ++ [y])).map uv).length = n + 1 := by have := HN.out; simp; omega
      have hl0 : ((x :: done).map uv).length = n := by have := HN.out; simp; omega
      have HVZ := Lib.hid hvz
      have HL3 := Lib.hid hl3
      have hl1 : (((x :: done).map uv).length + 1) * 8 ≤ 140737488355328 := by omega
      have hl2 : ((x :: done).map uv).length + 1 ≤ maxLen := by unfold maxLen; omega
      have hbw0 := (Array.getElem?_eq_some_iff.1 hbw).1
      have HBW := Lib.hid hbw
      clear hvz hl3 hl0 hbr hbw
      go_wp2_with (at_builtin; refine wpList_append_vz rfl (.tmp 34) (.tmp 39) 55 rfl Tryd.underlying55 _ 8 infoU64 rfl rfl (OwnV.alloc ho _) _ _ 1 [uv y] ((x :: (done ++ [y])).map uv) rfl rfl (cellsAt_one _ _ _ _ rfl) (uv_one [y]) HVZ.out hl1 hl2 (by have := hb.size; simp; omega) ?_; rw [HL3.out]; intro A3 c3 w3 ho3 hg3; have hb3 := (OwnV.alloc ho (.cells #[.int .u64 (y : Int)] 22)).belowGrown (B := w.heap.size) (Nat.le_refl _) (by have := hb.size; simp; omega) (below_alloc (Nat.le_refl _) hb _) hg3; have d1 : w3.cell? ⟨b, 1, none⟩ = some (.pointer f') := cell_of_row _ _ _ _ _ _ ((hb3.block b hbw0).trans HBW.out))
      go_roundw
      case rel =>
        refine ⟨done ++ [y], rest, f', A3, n + 1, c3, rfl, rfl, Lib.hid (by have := HN.out; simp; omega), ho3, Lib.hid ?_, hc', hb3⟩
        rw [← HD.out, List.append_assoc]
        rfl
      case measure =>
        have h1 := congrArg List.length HD.out
        have h2 := HN.out
        simp at h1
        show ws.length + 1 - (n + 1) < ws.length + 1 - n
        omega
    | nil =>
      have hfa : fa = none := hc
      subst hfa
      have hdw : done = ws := by have := HD.out; rwa [List.append_nil] at this
      subst hdw
      obtain ⟨gw, rfl⟩ : ∃ gw, A = some ⟨gw, 0, none⟩ := by
        rcases OwnV.cases ho with ⟨_, h2⟩ | ⟨g', cap, cur, h2, _⟩
        · simp at h2
        · injection h2 with h2
          exact ⟨g', h2⟩
      obtain ⟨us, hus⟩ : ∃ us, us = (x :: done).reverse := ⟨_, rfl⟩
      have hus2 : us = done.reverse ++ [x] := by rw [hus, List.reverse_cons]
      have hul : us.length = n := by have := HN.out; rw [hus2]; simp; omega
      have hn1 : n = done.length + 1 := HN.out
      have hmu : ∀ v ∈ us, v < 18446744073709551616 := fun v hv => by
        rw [hus2] at hv
        rcases List.mem_append.1 hv with h | h
        · exact HWS.out v (List.mem_reverse.1 h)
        · rw [List.mem_singleton.1 h]; exact hx64
      have hnl : n ≤ 1000001 := by omega
      have HUS := Lib.hid hus
      have HUS2 := Lib.hid hus2
      have HUL := Lib.hid hul
      have HMU := Lib.hid hmu
      have HN1 := Lib.hid hn1
      clear hus hus2 hul hmu hn1
      go_wp2_with (go_at_call 47; refine (reverse_any w.heap.size gw n c (x :: done) _ ho (by omega)).mono ?_; rintro e w4 ⟨rfl, ho4, hb4⟩; rw [← HUS.out] at ho4)
      go_loopw [6, 45] (fun bv iv wr => ∃ (k nb cb : Nat) (Ab : Option Addr), k ≤ n ∧ iv = .int .i64 (k : Int) ∧ bv = .slice Ab nb cb ∧ Hid (nb = 8 * k) ∧ OwnS wr w4.heap.size (.slice Ab nb cb) 5 (wordsB (us.take k)) ∧ Below w4.heap.size w4 wr) (fun _ iv _ => n - (intOf iv).toNat)
      case atStart => exact ⟨0, 0, 0, none, by omega, rfl, rfl, Lib.hid rfl, OwnS.nil _ _ _, Below.refl _ _⟩
      case round =>
        obtain ⟨k, nb, cb, Ab, hk, rfl, rfl, HNB, hob, hbb⟩ := hrel
        by_cases hlt : k < n
        · have hku : k < us.length := by rw [HUL.out]; exact hlt
          have hcu := ((OwnN.nats ho4).below hbb).cell k hku
          rw [Nat.zero_add] at hcu
          obtain ⟨v, hv⟩ : ∃ v, v = us[k] := ⟨_, rfl⟩
          have hv64 : v < 18446744073709551616 := by rw [hv]; exact HMU.out _ (List.getElem_mem hku)
          have hwt := words_take us k hku
          rw [← hv] at hcu hwt
          have HWT := Lib.hid hwt
          clear hv hwt
          go_wp2_with fail
          go_loopw [6, 9] (fun bv kv wr2 => ∃ (j nb2 cb2 : Nat) (Ab2 : Option Addr), j ≤ 8 ∧ kv = .int .i64 (56 - 8 * (j : Int)) ∧ bv = .slice Ab2 nb2 cb2 ∧ Hid (nb2 = 8 * k + j) ∧ OwnS wr2 w4.heap.size (.slice Ab2 nb2 cb2) 5 (wordsB (us.take k) ++ (beN v 8).take j) ∧ Below w4.heap.size w4 wr2) (fun _ kv _ => (intOf kv + 8).toNat)
          case atStart => exact ⟨0, nb, cb, Ab, by omega, rfl, rfl, Lib.hid HNB.out, by simpa using hob, hbb⟩
          case round =>
            obtain ⟨j, nb2, cb2, Ab2, hj, rfl, rfl, HNB2, hob2, hbb2⟩ := hrel
            by_cases hj8 : j < 8
            · obtain ⟨s, hs⟩ : ∃ s, s = 56 - 8 * j := ⟨_, rfl⟩
              have hsi : (56 : Int) - 8 * (j : Int) = (s : Int) := by omega
              rw [hsi]
              have hjl : j < (beN v 8).length := by rw [length_beN]; exact hj8
              have hz := byte_of_word v j hjl s hs
              have hts := take_step (beN v 8) j hjl
              obtain ⟨c8, hc8⟩ : ∃ c8, c8 = (beN v 8)[j] := ⟨_, rfl⟩
              rw [← hc8] at hz hts
              have hzz : wordsB (us.take k) ++ (beN v 8).take j ++ [c8] = wordsB (us.take k) ++ (beN v 8).take (j + 1) := by rw [hts, List.append_assoc]
              have hnn := hob2.caps
              have hnb2 := HNB2.out
              have hl1 : (wordsB (us.take k) ++ (beN v 8).take j).length + 1 ≤ 140737488355328 := by omega
              have hl3 : (wordsB (us.take k) ++ (beN v 8).take (j + 1)).length = nb2 + 1 := by rw [← hzz, List.length_append, hnn.1]; rfl
              have HZ := Lib.hid hz
              have HZZ := Lib.hid hzz
              have HL3 := Lib.hid hl3
              have HSI := Lib.hid hs
              have hs64 : s < 64 := by omega
              clear hsi hz hts hc8 hzz hnn hnb2 hl3 hs
              go_wp2_with (at_builtin; refine wpList_append_z rfl (.tmp 53) (.tmp 58) 24 rfl Tryd.underlying24 infoU8 rfl (hob2.alloc _) _ _ 1 [c8] (wordsB (us.take k) ++ (beN v 8).take (j + 1)) rfl rfl (bytesAt_one _ _ _ _ HZ.out) HZZ.out hl1 (by have := hbb2.size; simp; omega) ?_; rw [HL3.out]; intro A3 c3 w3 ho3 hg3)
              go_roundw
              case rel =>
                refine ⟨j + 1, nb2 + 1, c3, A3, by omega, ?_, rfl, Lib.hid (by have := HNB2.out; omega), ho3, (hob2.alloc _).belowGrown (Nat.le_refl _) (by have := hbb2.size; simp; omega) (below_alloc (Nat.le_refl _) hbb2 _) hg3⟩
                have := HSI.out
                have e : (56 : Int) - 8 * ((j + 1 : Nat) : Int) = (s : Int) - 8 := by omega
                rw [e]
              case measure => simp [intOf]; omega
            · obtain rfl : j = 8 := by omega
              have e : (56 : Int) - 8 * ((8 : Nat) : Int) = -8 := by omega
              rw [e]
              have e9 : (beN v 8).take 8 = beN v 8 := List.take_of_length_le (by rw [length_beN]; omega)
              rw [e9, ← HWT.out] at hob2
              go_wp2_with fail
              go_roundw
              case rel => exact ⟨k + 1, nb2, cb2, Ab2, by omega, by go_num, rfl, Lib.hid (by have := HNB2.out; omega), hob2, hbb2⟩
              case measure => simp [intOf]; omega
        · obtain rfl : k = n := by omega
          rw [List.take_of_length_le (by rw [HUL.out]; omega)] at hob
          have hnb := HNB.out
          have hcp := hob.caps
          have hn1 := HN1.out
          obtain ⟨q, hq⟩ : ∃ q, q = R / 8 := ⟨_, rfl⟩
          have hqi : (R : Int) / 8 = (q : Int) := by omega
          obtain ⟨z, hz⟩ : ∃ z, z = nb - q := ⟨_, rfl⟩
          have hq8 : q ≤ 8 := by omega
          have hqn : q ≤ nb := by omega
          have hzi : (nb : Int) - (q : Int) = (z : Int) := by omega
          have hzl : z ≤ nb := by omega
          have hnbl : nb ≤ 10000000 := by omega
          have hcb := hcp.2.1
          have hcm := hcp.2.2.1
          have hzb : BytesAt wr Ab (bytesW (wlen done m) (wval done r m)) := by
            have h1 := hob.bytes.take z
            have h2 : z = 8 * (done.length + 1) - R / 8 := by omega
            rw [HUS2.out, h2, HALL.out] at h1
            exact h1
          have hzw : z = (wlen done m + 7) / 8 := by
            have := HR.out
            unfold wlen
            omega
          have HZW := Lib.hid hzw
          have hblk : ∀ a, Ab = some a → w.heap.size ≤ a.block := by
            intro a ha
            have h1 := hb4.size
            have h2 := hb.size
            rcases hob.cases with ⟨h3, _⟩ | ⟨g', cap, h3, ho'⟩
            · injection h3 with h3
              rw [h3] at ha
              cases ha
            · injection h3 with h3
              rw [h3] at ha
              cases ha
              have := ho'.parts.1
              show w.heap.size ≤ g'
              omega
          have hbw : Below w.heap.size w wr := (hb.trans hb4).trans (hbb.mono (by have := hb.size; have := hb4.size; omega))
          clear hob hz hq hzw hnb hcp
          go_wp2_with fail
          go_ret
          exact ⟨Ab, z, cb, rfl, HZW.out, hzb, by omega, hcm, hblk, hbw⟩
end Go.Proofs.YtocddhokjhfaaaaDoor

namespace Go.Proofs.YtocddhokjhfaaaaDoor
open Go.RowKit BitM
set_option linter.unusedVariables false

theorem and_one (x : Nat) (hx : x < 18446744073709551616) : bits BinOp.and IntKind.u64 (x : Int) 1 = ((x % 2 : Nat) : Int) := by
  have e : bits BinOp.and IntKind.u64 (x : Int) ((1 : Nat) : Int) = ((x &&& 1 : Nat) : Int) := u64_and_nat _ _ hx (by omega)
  rw [Nat.and_one_is_mod] at e
  exact e
theorem and_one8 (x : Nat) (hx : x < 256) : bits BinOp.and IntKind.u8 (x : Int) 1 = ((x % 2 : Nat) : Int) := by
  have e : bits BinOp.and IntKind.u8 (x : Int) ((1 : Nat) : Int) = ((x &&& 1 : Nat) : Int) := u8_and_nat _ _ hx (by omega)
  rw [Nat.and_one_is_mod] at e
  exact e

theorem bl_bits_succ (xs : List UInt8) (i : Nat) (hi : i < 8 * xs.length) :
    bl (i + 1) (valB xs / 2 ^ (8 * xs.length - (i + 1))) = bl i (valB xs / 2 ^ (8 * xs.length - i)) ++ [UInt8.ofNat (xs[i / 8].toNat / 2 ^ (7 - i % 8) % 2)] := by
  have e : valB xs / 2 ^ (8 * xs.length - (i + 1)) = valB xs / 2 ^ (8 * xs.length - i) * 2 + xs[i / 8].toNat / 2 ^ (7 - i % 8) % 2 := by
    have h1 : 8 * xs.length - i = (8 * xs.length - (i + 1)) + 1 := by omega
    have h2 := mid_byte xs i 1 (by omega) (by omega)
    unfold mid at h2
    rw [show i + 1 - i = 1 by omega, Nat.pow_one, show 8 - i % 8 - 1 = 7 - i % 8 by omega] at h2
    rw [← h2, h1, Nat.pow_succ, ← Nat.div_div_eq_div_mul]
    omega
  rw [e, bl_snoc _ _ _ (by omega)]

theorem bl_bits_next (xs : List UInt8) (i T x s : Nat) (hT : T = 8 * xs.length) (hi : i < T) (h : i / 8 < xs.length) (hx : x = (xs[i / 8]'h).toNat) (hs : s = 7 - i % 8) :
    bl (i + 1) (valB xs / 2 ^ (T - (i + 1))) = bl i (valB xs / 2 ^ (T - i)) ++ [UInt8.ofNat (x / 2 ^ s % 2)] := by
  subst hT hx hs
  exact bl_bits_succ xs i hi

end Go.Proofs.YtocddhokjhfaaaaDoor

namespace Go.Proofs.YtocddhokjhfaaaaDoor
open Go.RowKit

section
variable {P : Program} {ops : Array Oper} {md : Region.Mode} {C : World → Prop}

def anyHead (P : Program) (md : Region.Mode) (ops : Array Oper) (C : World → Prop) (n : Nat) (L : Array Bool → Act → Prop) : Nat → Array Bool → Act → Prop
  | 0, listed, a => L listed a
  | f + 1, listed, a =>
    Region.ready md ops listed ≠ [] ∧ ∀ i ∈ Region.ready md ops listed, i < n ∧ qOp P ops C i (anyHead P md ops C n L f (listed.setIfInBounds i true)) a

theorem any_of_head {n g : Nat} {L : Array Bool → Act → Prop} {Q' : Exit → Act → World → Prop} (hL : ∀ listed a w, C w → L listed a → wpAny P md ops Q' g listed a w) :
    ∀ (f : Nat) (listed : Array Bool) (a : Act) (w : World), C w → anyHead P md ops C n L f listed a → wpAny P md ops Q' (f + g) listed a w
  | 0, listed, a, w, hw, h => by rw [Nat.zero_add]; exact hL _ _ _ hw h
  | f + 1, listed, a, w, hw, h => by
    rw [show f + 1 + g = (f + g) + 1 by omega]
    exact ⟨fun h0 => absurd h0 h.1, fun i hi => wpOp_of_qOp hw (fun a' w' hw' h' => any_of_head hL f _ a' w' hw' h') (h.2 i hi).2⟩

theorem anyHead_first {n i : Nat} {oi : Oper} {v : Value} {L : Array Bool → Act → Prop} (hi : ops[i]? = some oi) (hsel : ∀ (j : Nat) (o : Oper) cs b, ops[j]? = some o → o.op ≠ .select cs b)
    (hs : Region.sinkB md ops n = true) (hc : Region.chainB md ops n = true) (hn : n < ops.size) (hin : i < n)
    (hdone : ∀ listed a, L listed a → ∀ j ∈ Region.ready md ops listed, n ≤ j) :
    ∀ (f : Nat) (listed : Array Bool) (a : Act), HeadInv md ops n listed →
      (∀ j oj, ops[j]? = some oj → j ≠ i → listed.getD j true = false → (∀ e ∈ oj.after, Region.binds md e = true → e.on ≠ i) → oi.apart ops oj = true) →
      i ∈ Region.ready md ops listed → YieldsIn P ops C oi v a →
      anyHead P md ops C n L f (listed.setIfInBounds i true) (a.put oi.dst v) → anyHead P md ops C n L (f + 1) listed a := by
  intro f
  induction f with
  | zero =>
    intro listed a inv _ hr hy H
    have hun := (mem_ready.1 hr).1
    refine ⟨fun h => (by rw [h] at hr; cases hr), fun j hj => ?_⟩
    have hjn : j < n := by
      rcases Nat.lt_or_ge j n with h | h
      · exact h
      · exact absurd hj (tail_waits hs hc hn inv _ i rfl hin hun j h)
    refine ⟨hjn, ?_⟩
    by_cases hji : j = i
    · subst hji; exact hy.qOp hi H
    · have := hdone _ _ H j (ready_mono hj hji)
      omega
  | succ f ih =>
    intro listed a inv hfree hr hy H
    have hun := (mem_ready.1 hr).1
    refine ⟨fun h => (by rw [h] at hr; cases hr), fun j hj => ?_⟩
    have hjn : j < n := by
      rcases Nat.lt_or_ge j n with h | h
      · exact h
      · exact absurd hj (tail_waits hs hc hn inv _ i rfl hin hun j h)
    refine ⟨hjn, ?_⟩
    by_cases hji : j = i
    · subst hji; exact hy.qOp hi H
    · have h1 := (H.2 j (ready_mono hj hji)).2
      obtain ⟨hjun, oj, hoj, hall⟩ := mem_ready.1 hj
      have hnot : ∀ e ∈ oj.after, Region.binds md e = true → e.on ≠ i := fun e he hb heq => by
        have h1 := hall e he hb
        rw [heq, getD_both hun] at h1
        cases h1
      have h2 := qOp_put hoj (hfree j oj hoj hji hjun hnot) (fun cs b => hsel i oi cs b hi) (fun cs b => hsel j oj cs b hoj) hy h1
      have hfree' : ∀ k ok, ops[k]? = some ok → k ≠ i → (listed.setIfInBounds j true).getD k true = false →
          (∀ e ∈ ok.after, Region.binds md e = true → e.on ≠ i) → oi.apart ops ok = true := fun k ok hk hki hun hno => by
        refine hfree k ok hk hki ?_ hno
        by_cases hjk : j = k
        · subst hjk; exact hjun
        · rw [getD_set_ne true hjk] at hun; exact hun
      refine qOp_mono (fun a' h3 => ih (listed.setIfInBounds j true) a' (inv.set hj hjn) hfree' (ready_mono hr (Ne.symm hji)) h3.1 ?_) h2
      rw [Array.setIfInBounds_comm _ _ hji]
      exact h3.2

theorem anyHead_lex {n g : Nat} {Lq : Act → Prop} (hsel : Region.noSelect ops = true) (hs : Region.sinkB md ops n = true) (hc : Region.chainB md ops n = true) (hn : n < ops.size) :
    ∀ (l : List Oper) (k : Nat) (listed : Array Bool) (a : Act), (∀ j, j < l.length → l[j]? = ops[k + j]?) → k + l.length = n → HeadInv md ops n listed →
    Region.lexHead md ops g l.length k listed = true → wpQuiet P ops C Lq l a →
    anyHead P md ops C n (fun listed' a' => Region.seqB md ops g n listed' = true ∧ Lq a') l.length listed a
  | [], k, listed, a, _, hk, _, hB, h => by
    have : k = n := by simpa using hk
    subst this
    exact ⟨by simpa [Region.lexHead] using hB, h⟩
  | o :: l, k, listed, a, hl, hk, inv, hB, h => by
    have h0 : ops[k]? = some o := by simpa using (hl 0 (by simp)).symm
    simp only [List.length_cons, Region.lexHead, Bool.and_eq_true] at hB
    obtain ⟨⟨hr, hf⟩, hB'⟩ := hB
    have hkn : k < n := by simp only [List.length_cons] at hk; omega
    have hr' : k ∈ Region.ready md ops listed := by simpa using hr
    have hst : qOp P ops C k (wpQuiet P ops C Lq l) a := by unfold qOp; simp only [h0]; exact h
    obtain ⟨v, hy, hK⟩ := yieldsIn_of_qOp h0 hst
    exact anyHead_first h0 (Region.noSelect_spec hsel) hs hc hn hkn (fun listed' a' hL => seqB_ready hL.1) l.length listed a inv (Region.free_spec h0 hf) hr' hy
      (anyHead_lex hsel hs hc hn l (k + 1) _ _ (fun j hj => by have := hl (j + 1) (by simp; omega); simpa [Nat.add_assoc, Nat.add_comm 1 j] using this) (by simp only [List.length_cons] at hk; omega) (inv.set hr' hkn) hB' hK)
end

theorem region_below_tail {P : Program} {id : Nat} {Q : Exit → Act → World → Prop} {a : Act} {w : World} {l : List Oper} (n B : Nat) (w0 : World) (hb : Below B w0 w)
    (hm : P.follows .mixedOrders = true) (hB : Region.lexTailB .any l.toArray n = true)
    (h : wpQuiet P l.toArray (fun w' => ∃ x : SubW B w0, w' = x.at_) (fun a' => ∀ w', (∃ x : SubW B w0, w' = x.at_) → wpList P l.toArray Q (l.drop n) a' w') (l.take n) a) : (Code.region id l.toArray true).wp P Q a w := by
  simp only [Region.lexTailB, Bool.and_eq_true, decide_eq_true_eq] at hB
  obtain ⟨⟨⟨⟨hsel, hn⟩, hs⟩, hc⟩, hlex⟩ := hB
  have hn' : n < l.length := by simpa using hn
  have htl : (l.take n).length = n := by simp; omega
  have hdl : (l.drop n).length = l.toArray.size - n := by simp
  have inv0 : HeadInv .any l.toArray n (Array.replicate l.toArray.size false) :=
    ⟨by simp, fun j oj _ hl => (by rw [getD_replicate_false] at hl; cases hl), fun t _ ht => getD_in (by simpa using ht) (getD_replicate_false _ _)⟩
  have H := anyHead_lex (md := .any) (g := l.toArray.size - n) hsel hs hc hn (l.take n) 0 _ a (fun j hj => by
    have hj' : j < n := by rw [htl] at hj; exact hj
    simp [hj']) (by simpa using htl) inv0 (by rw [htl]; exact hlex) h
  refine wp_region_any hm ?_
  have := any_of_head (Q' := Q) (g := l.toArray.size - n) (fun listed a' w' hw hL => by
    have := wpAny_of_seq (md := .any) (Q' := Q) (l.drop n) n listed a' w' (fun j => by simp [List.getElem?_drop]) (by rw [hdl]; exact hL.1) (hL.2 w' hw)
    rwa [hdl] at this) _ _ _ { w with drawn := w.drawn + 1 } ⟨⟨_, below_drewN hb 1⟩, rfl⟩ H
  rw [htl, show n + (l.toArray.size - n) = l.toArray.size by omega] at this
  exact this
end Go.Proofs.YtocddhokjhfaaaaDoor

namespace Go.Proofs.YtocddhokjhfaaaaDoor
open Go.RowKit BitM
set_option linter.unusedVariables false

theorem mid_bit (V L i : Nat) (hi : i < L) : mid V L 0 (i + 1) = mid V L 0 i * 2 + V / 2 ^ (L - 1 - i) % 2 := by
  rw [mid_more V L 0 i 1 (by omega) (by omega), Nat.pow_one]
  unfold mid
  rw [show i + 1 - i = 1 by omega, Nat.pow_one, show L - (i + 1) = L - 1 - i by omega]

theorem replicate_bv (k : Nat) : (madeCells (Value.int .u8 0).cells (k * 1)).toList = (List.replicate k (0 : UInt8)).map bv := by
  have e : madeCells (Value.int .u8 0).cells (k * 1) = Array.replicate k (.int .u8 0) := by
    apply Array.ext
    · simp [madeCells]
    · intro i h1 h2
      simp [madeCells, Value.cells, Nat.mod_one]
  rw [e]
  simp [bv]
theorem own_made8 {w : World} {base k : Nat} {v : Value} (h : w.ownsRow base 5 1 v k (madeCells (Value.int .u8 0).cells (k * 1)).toList) : OwnS w base v 5 (List.replicate k 0) := by
  rw [replicate_bv] at h
  unfold OwnS
  rw [List.length_replicate]
  exact h
theorem OwnS.stored {w : World} {base g n cap : Nat} {E : TypeId} {xs : List UInt8} (h : OwnS w base (.slice (some ⟨g, 0, none⟩) n cap) E xs) (j : Nat) (hj : j < xs.length) (c : UInt8) :
    OwnS (w.setCell ⟨g, j, none⟩ (.int .u8 (c.toNat : Int))) base (.slice (some ⟨g, 0, none⟩) n cap) E (xs.set j c) := by
  have hn := h.caps.1
  subst hn
  have := OwnB.stored (h : OwnB w base g cap E xs) j hj c
  unfold OwnS
  unfold OwnB at this
  rw [List.length_set] at *
  exact this
theorem OwnS.cellAt {w : World} {base g n cap : Nat} {E : TypeId} {xs : List UInt8} (h : OwnS w base (.slice (some ⟨g, 0, none⟩) n cap) E xs) (j : Nat) (hj : j < xs.length) :
    w.cell? ⟨g, j, none⟩ = some (.int .u8 ((xs.getD j 0).toNat : Int)) ∧ w.frozen? ⟨g, j, none⟩ = false := by
  have hn := h.caps.1
  subst hn
  exact ⟨OwnB.cellAt (h : OwnB w base g cap E xs) j hj, OwnB.frozenAt (h : OwnB w base g cap E xs) j⟩

theorem or_byte (a b s : Nat) (hs : s ≤ 7) (ha : a % 2 ^ (s + 1) = 0) (hb : b < 2) (h : a + b * 2 ^ s < 256) :
    bits BinOp.or IntKind.u8 (a : Int) (IntKind.u8.wrap ((b : Int) * 2 ^ s)) = ((a + b * 2 ^ s : Nat) : Int) := by
  have e1 : (b : Int) * 2 ^ s = ((b * 2 ^ s : Nat) : Int) := by simp
  have e2 : IntKind.u8.wrap ((b * 2 ^ s : Nat) : Int) = ((b * 2 ^ s : Nat) : Int) := by rw [IntKind.wrap_u8]; omega
  rw [e1, e2, u8_or_nat _ _ (by omega) (by omega)]
  congr 1
  have h1 : a = a / 2 ^ (s + 1) * 2 ^ (s + 1) := by have := Nat.div_add_mod' a (2 ^ (s + 1)); omega
  have h2 : b * 2 ^ s < 2 ^ (s + 1) := by
    rw [Nat.pow_succ]
    have : b * 2 ^ s ≤ 1 * 2 ^ s := Nat.mul_le_mul_right _ (by omega)
    have : 0 < 2 ^ s := Nat.pow_pos (by omega)
    omega
  generalize a / 2 ^ (s + 1) = q at h1
  rw [h1, ← Nat.shiftLeft_eq q, ← Nat.shiftLeft_add_eq_or_of_lt h2]

end Go.Proofs.YtocddhokjhfaaaaDoor

namespace BitM

theorem cval_lt : ∀ (ws : List Nat), (∀ x ∈ ws, x < 18446744073709551616) → cval ws < 2 ^ (64 * ws.length)
  | [], _ => by simp [cval]
  | x :: r, h => by
    rw [cval_cons, List.length_cons, show 64 * (r.length + 1) = 64 * r.length + 64 by omega, Nat.pow_add]
    have h1 := cval_lt r (fun y hy => h y (by simp [hy]))
    have h2 := h x (by simp)
    have h3 : (cval r + 1) * 2 ^ 64 ≤ 2 ^ (64 * r.length) * 2 ^ 64 := Nat.mul_le_mul_right _ h1
    rw [Nat.add_mul] at h3
    omega
theorem wval_lt (ws : List Nat) (r m : Nat) (h : ∀ x ∈ ws, x < 18446744073709551616) : wval ws r m < 2 ^ wlen ws m := by
  unfold wval wlen
  rw [Nat.pow_add]
  have h1 := cval_lt ws h
  have h2 := Nat.mod_lt r (show 0 < 2 ^ m from Nat.pow_pos (by omega))
  have h3 : (cval ws + 1) * 2 ^ m ≤ 2 ^ (64 * ws.length) * 2 ^ m := Nat.mul_le_mul_right _ h1
  rw [Nat.add_mul] at h3
  omega
theorem valB_bytesW (L V : Nat) (hV : V < 2 ^ L) : valB (bytesW L V) = V * 2 ^ (8 * ((L + 7) / 8) - L) := by
  unfold bytesW
  rw [valB_beN, Nat.mod_eq_of_lt]
  rw [show (256 : Nat) = 2 ^ 8 from rfl, ← Nat.pow_mul]
  have : (2 : Nat) ^ (8 * ((L + 7) / 8)) = 2 ^ L * 2 ^ (8 * ((L + 7) / 8) - L) := by rw [← Nat.pow_add]; congr 1; omega
  rw [this]
  exact Nat.mul_lt_mul_of_pos_right hV (Nat.pow_pos (by omega))
/-- What is read back of what was put. -/
theorem mid_bytesW (L V p q : Nat) (hV : V < 2 ^ L) (hq : q ≤ L) : mid (valB (bytesW L V)) (8 * ((L + 7) / 8)) p q = mid V L p q := by
  rw [valB_bytesW L V hV]
  unfold mid
  congr 1
  have e : 8 * ((L + 7) / 8) - q = (8 * ((L + 7) / 8) - L) + (L - q) := by omega
  rw [e, Nat.pow_add, ← Nat.div_div_eq_div_mul, Nat.mul_div_cancel _ (Nat.pow_pos (by omega))]
end BitM
namespace Go.Proofs.YtocddhokjhfaaaaDoor
open Go.RowKit BitM
set_option linter.unusedVariables false

/-- A Writer in block g holds the L bits of V. -/
def WSt (w : World) (base g L V : Nat) : Prop := ∃ ws r m, WrAt w base g ws r m ∧ wlen ws m = L ∧ wval ws r m = V
theorem WSt.lt {w : World} {base g L V : Nat} (h : WSt w base g L V) : V < 2 ^ L := by
  obtain ⟨ws, r, m, ⟨f, _, _, _, _, h5, _⟩, rfl, rfl⟩ := h
  exact wval_lt ws r m h5
theorem WSt.below {w w' : World} {base g L V : Nat} (h : WSt w base g L V) (hb : Below w.heap.size w w') : WSt w' base g L V := by
  obtain ⟨ws, r, m, h1, h2, h3⟩ := h
  exact ⟨ws, r, m, h1.below hb, h2, h3⟩
theorem WSt.beside {w w' : World} {base g L V : Nat} (h : WSt w base g L V) {q : Nat} (hg : w.grownBy w' (some q)) (hq : q < base) : WSt w' base g L V := by
  obtain ⟨ws, r, m, h1, h2, h3⟩ := h
  exact ⟨ws, r, m, h1.beside hg hq, h2, h3⟩
theorem WSt.block {w : World} {base g L V : Nat} (h : WSt w base g L V) : base ≤ g ∧ g < w.heap.size := by
  obtain ⟨ws, r, m, ⟨f, h1, h2, _⟩, _⟩ := h
  exact ⟨h2, (Array.getElem?_eq_some_iff.1 h1).1⟩
theorem WSt.new (w : World) (base : Nat) (hb : base ≤ w.heap.size) : WSt (w.alloc (.cells #[.pointer none, .int .u64 0, .int .i64 0] 64)) base w.heap.size 0 0 :=
  ⟨[], 0, 0, ⟨none, heap_alloc_new _ _, hb, by omega, by omega, (fun x hx => by cases hx), rfl⟩, rfl, rfl⟩
theorem below_some {B : Nat} {w0 w w' : World} {g : Nat} (hw : B ≤ w.heap.size) (hg : B ≤ g) (hb : Below B w0 w) (h : w.grownBy w' (some g)) : Below B w0 w' :=
  hb.grown h hw (fun k hk => by injection hk with hk; omega)

theorem wput_st (base g L V v : Nat) (n : Int) (w : World) (h : WSt w base g L V) (hv : v < 18446744073709551616) (k : Nat) (hk : k = wi n) :
    Calls Tryd.prog 30 #[.pointer (some ⟨g, 0, none⟩), .int .u64 (v : Int), .int .i64 n] w fun e w' => e = .returned (.tuple #[]) ∧ WSt w' base g (L + k) (V * 2 ^ k + v % 2 ^ k) ∧ w.grownBy w' (some g) := by
  subst hk
  obtain ⟨ws, r, m, h1, rfl, rfl⟩ := h
  exact wput_any base g ws r m v n w h1 hv
theorem wput_to (base g L V L' V' v : Nat) (n : Int) (z : Int) (w : World) (h : WSt w base g L V) (hz : z = (v : Int)) (hv : v < 18446744073709551616) (k : Nat) (hk : k = wi n) (hL : L' = L + k) (hV : V' = V * 2 ^ k + v % 2 ^ k) :
    Calls Tryd.prog 30 #[.pointer (some ⟨g, 0, none⟩), .int .u64 z, .int .i64 n] w fun e w' => e = .returned (.tuple #[]) ∧ WSt w' base g L' V' ∧ w.grownBy w' (some g) := by
  subst hL hV hz
  exact wput_st base g L V v n w h hv k hk
theorem wbytes_st (base g L V nb : Nat) (w : World) (h : WSt w base g L V) (hl : L ≤ 60000000) (hnb : nb = (L + 7) / 8) :
    Calls Tryd.prog 31 #[.pointer (some ⟨g, 0, none⟩)] w fun e w' => ∃ A' c', e = .returned (.slice A' nb c') ∧ BytesAt w' A' (bytesW L V) ∧ nb ≤ c' ∧ c' ≤ maxLen ∧ (∀ a, A' = some a → w.heap.size ≤ a.block) ∧ Below w.heap.size w w' := by
  subst hnb
  obtain ⟨ws, r, m, h1, rfl, rfl⟩ := h
  refine (wbytes_any base g ws r m w h1 (by unfold wlen at hl; omega)).mono ?_
  rintro e w' ⟨A', n', c', rfl, rfl, h3, h4, h5, h6, h7⟩
  exact ⟨A', c', rfl, h3, h4, h5, h6, h7⟩

theorem take_val (g b off : Nat) (len c p q : Nat) (n : Int) (xs : List UInt8) (M : Nat) (w : World) (h : RdAt w g (some ⟨b, off, none⟩) len c p false) (hx : BytesAt w (some ⟨b, off, none⟩) xs) (hxl : xs.length = len) (hl : len ≤ 1000000000) (hq : q = p + wi n) (hb : q ≤ 8 * len) (hM : mid (valB xs) (8 * len) p q = M) (hne : b ≠ g) :
    Calls Tryd.prog 54 #[.pointer (some ⟨g, 0, none⟩), .int .i64 n] w fun e w' => e = .returned (.int .u64 (M : Int)) ∧ RdAt w' g (some ⟨b, off, none⟩) len c q false ∧ w.grownBy w' (some g) := by
  subst hq hM
  exact take_ok g b off len c p n xs w h hx hxl hl hne hb

theorem mid168a : mid (valB [168]) (8 * 1) 0 3 = 5 := by decide +kernel
theorem mid168b : mid (valB [168]) (8 * 1) 3 5 = 1 := by decide +kernel
theorem take_lit (g b off : Nat) (len c p q : Nat) (n : Int) (xs : List UInt8) (M : Nat) (z : Int) (w : World) (hz : z = (M : Int)) (h : RdAt w g (some ⟨b, off, none⟩) len c p false) (hx : BytesAt w (some ⟨b, off, none⟩) xs) (hxl : xs.length = len) (hl : len ≤ 1000000000) (hq : q = p + wi n) (hb : q ≤ 8 * len) (hM : mid (valB xs) (8 * len) p q = M) (hne : b ≠ g) :
    Calls Tryd.prog 54 #[.pointer (some ⟨g, 0, none⟩), .int .i64 n] w fun e w' => e = .returned (.int .u64 z) ∧ RdAt w' g (some ⟨b, off, none⟩) len c q false ∧ w.grownBy w' (some g) := by
  subst hz
  exact take_val g b off len c p q n xs M w h hx hxl hl hq hb hM hne
theorem left_lit (g : Nat) (A : Option Addr) (n c p : Nat) (bad : Bool) (z : Int) (w : World) (hz : z = ((8 * n - p : Nat) : Int)) (h : RdAt w g A n c p bad) (hn : n ≤ 1000000000) (hp : p ≤ 8 * n) :
    Calls Tryd.prog 65 #[.pointer (some ⟨g, 0, none⟩)] w fun e w' => e = .returned (.int .i64 z) ∧ Below w.heap.size w w' := by
  subst hz
  exact left_any g A n c p bad w h hn hp

theorem bytes168 : bytesW 5 21 = [168] := by decide

end Go.Proofs.YtocddhokjhfaaaaDoor

namespace Go.Proofs.YtocddhokjhfaaaaDoor
open Go.RowKit BitM
set_option linter.unusedVariables false

theorem bytes_past {w w' : World} {g : Nat} {A : Option Addr} {n c p : Nat} {bad : Bool} (h : RdAt w g A n c p bad) {A' : Option Addr} {ys : List UInt8} (hx : BytesAt w A' ys) (hg : w.grownBy w' (some g)) : BytesAt w' A' ys := fun h0 => by
  obtain ⟨b, off, rfl, hc⟩ := hx h0
  exact bytes_beside hx hg (h.apart hx h0) h0

set_option maxRecDepth 100000 in
theorem take_zero (g : Nat) (A : Option Addr) (len c p : Nat) (n : Int) (w : World) (h : RdAt w g A len c p false) (hl : len ≤ 1000000000) (hp : p ≤ 8 * len) (hn : wi n = 0) :
    Calls Tryd.prog 54 #[.pointer (some ⟨g, 0, none⟩), .int .i64 n] w fun e w' => e = .returned (.int .u64 0) ∧ RdAt w' g A len c p false ∧ w.grownBy w' (some g) := by
  obtain ⟨c0, c1, c2, f0, f1, f2, hlt⟩ := h.cells
  have hd : decide (((8 * len - p : Nat) : Int) < 0) = false := by rw [decide_eq_false_iff_not]; omega
  go_enter Tryd.func54, Tryd.ntmps54
  go_wp2_with (first
    | (go_at_call 45; refine (within_any _ _).mono ?_; rw [hn]; rintro e w1 ⟨rfl, rfl⟩)
    | (go_at_call 65; refine (left_any g _ len c p false _ h hl hp).mono ?_; rintro e w2 ⟨rfl, hbl⟩; have h2 := h.below hbl; obtain ⟨d0, d1, d2, g0, g1, g2, hlt2⟩ := h2.cells))
  have h3 := h2.set2 false
  have hg3 := grown_set (grown_below_any (World.grownBy.refl w _) hbl) (g := g) 2 (.bool false)
  clear c0 c1 c2 f0 f1 f2 d0 d1 d2 g0 g1 g2 h2 hlt2
  generalize w2.setCell ⟨g, 2, none⟩ (.bool false) = wq at *
  go_loopw [1, 5] (fun i v wr => i = .int .i64 0 ∧ v = .int .u64 0 ∧ RdAt wr g A len c p false ∧ wq.grownBy wr (some g)) (fun i _ _ => (intOf i).toNat)
  case atStart => exact ⟨rfl, rfl, h3, World.grownBy.refl wq _⟩
  case round =>
    obtain ⟨rfl, rfl, hr, hg⟩ := hrel
    go_wp2_with fail
    go_ret
    exact ⟨rfl, hr, hg3.trans hg⟩

theorem take_okA (g : Nat) (A : Option Addr) (len c p : Nat) (n : Int) (xs : List UInt8) (M : Nat) (w : World) (h : RdAt w g A len c p false) (hx : BytesAt w A xs) (hxl : xs.length = len) (hl : len ≤ 1000000000) (hb : p + wi n ≤ 8 * len) (hM : mid (valB xs) (8 * len) p (p + wi n) = M) :
    Calls Tryd.prog 54 #[.pointer (some ⟨g, 0, none⟩), .int .i64 n] w fun e w' => e = .returned (.int .u64 (M : Int)) ∧ RdAt w' g A len c (p + wi n) false ∧ w.grownBy w' (some g) := by
  subst hM
  by_cases h0 : xs = []
  · have hz : wi n = 0 := by
      rw [h0] at hxl
      simp at hxl
      omega
    rw [hz, Nat.add_zero, mid_none]
    exact take_zero g A len c p n w h hl (by omega) hz
  · obtain ⟨b, off, rfl, hc⟩ := hx h0
    exact take_ok g b off len c p n xs w h hx hxl hl (h.apart hx h0) hb

end Go.Proofs.YtocddhokjhfaaaaDoor
