/- Slices of bytes that a call owns, nil among them: append behind them, one byte or many. No program is named here. -/
import Derived.Test.YtgkddhncfaeidaaFloat
namespace Go.Proofs.Ytgkddhncfaeidaa
open Go.RowKit

/-- The slice v, from block base on, is these bytes and is owned. -/
def OwnS (w : World) (base : Nat) (v : Value) (E : TypeId) (xs : List UInt8) : Prop := w.ownsRow base E 1 v xs.length (xs.map bv)

section
variable {w w' : World} {base : Nat} {v : Value} {E : TypeId} {xs ys : List UInt8}

theorem OwnS.nil (w : World) (base : Nat) (E : TypeId) : OwnS w base (.slice none 0 0) E [] := World.ownsRow_nil w base E 1

theorem OwnB.ownS {g cap : Nat} (h : OwnB w base g cap E xs) : OwnS w base (.slice (some ⟨g, 0, none⟩) xs.length cap) E xs := h

theorem OwnS.new (w : World) (E : TypeId) (xs : List UInt8) (base : Nat) (hb : base ≤ w.heap.size) (hl : xs.length ≤ maxLen) : OwnS (w.alloc (.cells (xs.map bv).toArray E)) base (.slice (some ⟨w.heap.size, 0, none⟩) xs.length xs.length) E xs :=
  OwnB.new w E xs base hb hl

theorem OwnS.cases (h : OwnS w base v E xs) : (v = .slice none 0 0 ∧ xs = []) ∨ ∃ g cap, v = .slice (some ⟨g, 0, none⟩) xs.length cap ∧ OwnB w base g cap E xs := by
  rcases h.2 with ⟨h0, h1⟩ | ⟨g', cap', cur, hv, hb, hh, hn, hm, hs, ht⟩
  · exact .inl ⟨h0, List.eq_nil_of_length_eq_zero h1⟩
  · refine .inr ⟨g', cap', hv, ?_⟩
    unfold OwnB
    rw [← hv]
    exact h

theorem OwnS.slice (h : OwnS w base v E xs) : ∃ A c, v = .slice A xs.length c ∧ BytesAt w A xs ∧ xs.length ≤ c ∧ c ≤ maxLen ∧ (∀ a, A = some a → a.off = 0 ∧ a.spot = none) := by
  rcases h.cases with ⟨rfl, rfl⟩ | ⟨g, cap, rfl, ho⟩
  · exact ⟨none, 0, rfl, fun h => absurd rfl h, Nat.le_refl _, Nat.zero_le _, fun a h => by cases h⟩
  · obtain ⟨_, h1, h2, _⟩ := ho.parts
    exact ⟨_, cap, rfl, ho.bytes, h1, h2, fun a h => by cases h; exact ⟨rfl, rfl⟩⟩

theorem OwnS.bytes {A : Option Addr} {n c : Nat} (h : OwnS w base (.slice A n c) E xs) : BytesAt w A xs := by
  obtain ⟨A2, c2, he, hby, _⟩ := h.slice
  injection he with h1
  rw [h1]
  exact hby
theorem OwnS.caps {A : Option Addr} {n c : Nat} (h : OwnS w base (.slice A n c) E xs) : xs.length = n ∧ n ≤ c ∧ c ≤ maxLen ∧ (A = none → n = 0 ∧ c = 0) := by
  rcases h.cases with ⟨h1, rfl⟩ | ⟨g, cap, h1, ho⟩
  · injection h1 with h1 h2 h3
    subst h1 h2 h3
    exact ⟨rfl, Nat.le_refl _, Nat.zero_le _, fun _ => ⟨rfl, rfl⟩⟩
  · injection h1 with h1 h2 h3
    subst h1 h2 h3
    exact ⟨rfl, ho.parts.2.1, ho.parts.2.2.1, fun h => by cases h⟩

theorem OwnS.block (h : OwnS w base v E xs) : ∀ g, v.ownBlock = some g → base ≤ g ∧ g < w.heap.size := by
  intro g hg
  rcases h.cases with ⟨rfl, rfl⟩ | ⟨g', cap, rfl, ho⟩
  · simp [Value.ownBlock] at hg
  · simp [Value.ownBlock] at hg
    subst hg
    exact ⟨ho.parts.1, ho.lt⟩

theorem OwnS.keep (h : OwnS w base v E xs) (e : ∀ g, v.ownBlock = some g → w'.heap[g]? = w.heap[g]?) : OwnS w' base v E xs := by
  rcases h.cases with ⟨rfl, rfl⟩ | ⟨g', cap, rfl, ho⟩
  · exact OwnS.nil w' base E
  · exact (ho.keep (e g' (by simp [Value.ownBlock]))).ownS
theorem OwnS.below (h : OwnS w base v E xs) (hb : Below w.heap.size w w') : OwnS w' base v E xs := h.keep fun g hg => hb.block g (h.block g hg).2
theorem OwnS.belowB (h : OwnS w base v E xs) {B : Nat} (hB : w.heap.size ≤ B) (hb : Below B w w') : OwnS w' base v E xs := h.keep fun g hg => hb.block g (Nat.lt_of_lt_of_le (h.block g hg).2 hB)
theorem OwnS.alloc (h : OwnS w base v E xs) (o : Obj) : OwnS (w.alloc o) base v E xs := h.keep fun g hg => Below.heap_alloc w o g (h.block g hg).2
theorem OwnS.drew (h : OwnS w base v E xs) : OwnS w.drew base v E xs := h
theorem OwnS.mono {base' : Nat} (h : OwnS w base v E xs) (hb : base' ≤ base) : OwnS w base' v E xs := by
  rcases h.cases with ⟨rfl, rfl⟩ | ⟨g', cap, rfl, ho⟩
  · exact OwnS.nil w base' E
  · obtain ⟨h1, h2, h3, cur, h4, h5, h6⟩ := ho.parts
    exact ⟨by simp, .inr ⟨g', cap, cur, rfl, Nat.le_trans hb h1, h4, h2, h3, by simpa using h5, by simpa using h6⟩⟩
/-- Another row is grown: this one stays. -/
theorem OwnS.beside (h : OwnS w base v E xs) {r : Option Nat} (hg : w.grownBy w' r) (hne : ∀ g, v.ownBlock = some g → r ≠ some g) : OwnS w' base v E xs :=
  h.keep fun g hg2 => hg.block g (h.block g hg2).2 (fun e => hne g hg2 e.symm)

theorem OwnS.belowGrown (h : OwnS w base v E xs) {w0 : World} {B : Nat} (hB : B ≤ base) (hw : B ≤ w.heap.size) (hb : Below B w0 w) (hg : w.grownBy w' v.ownBlock) : Below B w0 w' :=
  hb.grown hg hw (fun k hk => Nat.le_trans hB (h.block k hk).1)

theorem bytesAt_one (w : World) (z : Int) (c : UInt8) (t : TypeId) (hz : z = (c.toNat : Int)) : BytesAt (w.alloc (.cells #[.int .u8 z] t)) (some ⟨w.heap.size, 0, none⟩) [c] := fun _ =>
  ⟨w.heap.size, 0, rfl, fun k hk => by
    have : k = 0 := by simpa using hk
    subst this
    rw [World.cell?_alloc_new, hz]
    rfl⟩

variable {P : Program}
theorem run_append_s (t ty : TypeId) (ht : P.underlying t = some (.slice E)) (hi : (P.info? E).map (fun i => (i.zero, i.size, i.bytes)) = some (some (.int .u8 0), 1, 1))
    (hown : OwnS w base v E xs) (A : Option Addr) (c n : Nat) (hn : ys.length = n) (hA : BytesAt w A ys) (hl : xs.length + n ≤ 140737488355328) (hbase : base ≤ w.heap.size) :
    ∃ A' c' w', (Builtin.append_ #[t, t] ty #[v, .slice A n c]).run P w = .ok (.slice A' (xs ++ ys).length c') w' ∧
      OwnS w' base (.slice A' (xs ++ ys).length c') E (xs ++ ys) ∧ w.grownBy w' v.ownBlock := by
  obtain ⟨i, hi0, hz, hs, hb⟩ := info_parts hi
  subst hn
  by_cases hy : ys = []
  · subst hy
    rcases hown.cases with ⟨rfl, rfl⟩ | ⟨g, cap, rfl, ho⟩
    · refine ⟨none, 0, w, ?_, OwnS.nil w base E, World.grownBy.refl w _⟩
      cases A <;> simp [Builtin.append_, run_underlying ht, sizeOf, typeInfo, hi0, Builtin.lenOf, Builtin.firstCells, loadCells, loadCellsFrom]
    · obtain ⟨_, hn, _⟩ := ho.parts
      refine ⟨some ⟨g, 0, none⟩, cap, w, ?_, by simpa using hown, World.grownBy.refl w _⟩
      cases A <;> simp [Builtin.append_, run_underlying ht, sizeOf, typeInfo, hi0, Builtin.lenOf, Builtin.firstCells, hn, storeCells, loadCells, loadCellsFrom]
  · obtain ⟨ad, rfl, hc⟩ := byteV_cells hA hy
    obtain ⟨v', w', hr, h2, h3, _, _⟩ := run_append_own_at (P := P) w base t ty E i _ 1 1 ht hi0 hz hs hb rfl (by omega) v xs.length (xs.map bv) hown
      ad ys.length c (ys.map bv) (by simp) hc (bv_one ys) (by unfold maxLen; omega) (by omega) hbase
    have h2' : OwnS w' base v' E (xs ++ ys) := by
      unfold OwnS
      rw [List.length_append, List.map_append]
      exact h2
    obtain ⟨A', c', rfl, _⟩ := h2'.slice
    exact ⟨A', c', w', hr, h2', h3⟩

theorem wpList_append_s {ops : Array Oper} {rest : List Oper} {o : Oper} {a : Act} {Q : Exit → Act → World → Prop} (hgd : o.guard = none) (s x : Operand) (t : TypeId)
    (ho : o.op = .call { callee := .builtin .append, args := #[s, x], argTypes := #[t, t] }) (ht : P.underlying t = some (.slice E)) (hi : (P.info? E).map (fun i => (i.zero, i.size, i.bytes)) = some (some (.int .u8 0), 1, 1))
    (hs : a.eval s = v) (hown : OwnS w base v E xs) (A : Option Addr) (c n : Nat) (ys : List UInt8) (hx : a.eval x = .slice A n c) (hn : ys.length = n) (hA : BytesAt w A ys)
    (hl : xs.length + n ≤ 140737488355328) (hbase : base ≤ w.heap.size)
    (h : ∀ A' c' w', OwnS w' base (.slice A' (xs ++ ys).length c') E (xs ++ ys) → w.grownBy w' v.ownBlock → wpList P ops Q rest (a.put o.dst (.slice A' (xs ++ ys).length c')) w') : wpList P ops Q (o :: rest) a w :=
  wpList_plain hgd fun _ hK => by
    obtain ⟨A', c', w', hr, h2, h3⟩ := run_append_s (P := P) t o.type ht hi hown A c n hn hA hl hbase
    unfold Oper.wp execOp
    simp only [ho, resolve, invoke, builtin, Sem.run_bind, Sem.run_pure, Result.andThen_ok, List.map_toArray, List.map_cons, List.map_nil, hs, hx, hr]
    exact hK _ _ (h A' c' w' h2 h3)

/-- The same, the bytes behind it under a name. -/
theorem wpList_append_z {ops : Array Oper} {rest : List Oper} {o : Oper} {a : Act} {Q : Exit → Act → World → Prop} (hgd : o.guard = none) (s x : Operand) (t : TypeId)
    (ho : o.op = .call { callee := .builtin .append, args := #[s, x], argTypes := #[t, t] }) (ht : P.underlying t = some (.slice E)) (hi : (P.info? E).map (fun i => (i.zero, i.size, i.bytes)) = some (some (.int .u8 0), 1, 1))
    (hs : a.eval s = v) (hown : OwnS w base v E xs) (A : Option Addr) (c n : Nat) (ys zs : List UInt8) (hx : a.eval x = .slice A n c) (hn : ys.length = n) (hA : BytesAt w A ys) (hz : xs ++ ys = zs)
    (hl : xs.length + n ≤ 140737488355328) (hbase : base ≤ w.heap.size)
    (h : ∀ A' c' w', OwnS w' base (.slice A' zs.length c') E zs → w.grownBy w' v.ownBlock → wpList P ops Q rest (a.put o.dst (.slice A' zs.length c')) w') : wpList P ops Q (o :: rest) a w := by
  subst hz
  exact wpList_append_s hgd s x t ho ht hi hs hown A c n ys hx hn hA hl hbase h

/-- The same, as a step of a region that draws its order. -/
theorem step_append_s {ops : Array Oper} {o : Oper} {a : Act} {K : Act → World → Prop} {Q : Exit → Act → World → Prop} {F : Prop} (hgd : o.guard = none) (s x : Operand) (t : TypeId)
    (ho : o.op = .call { callee := .builtin .append, args := #[s, x], argTypes := #[t, t] }) (ht : P.underlying t = some (.slice E)) (hi : (P.info? E).map (fun i => (i.zero, i.size, i.bytes)) = some (some (.int .u8 0), 1, 1))
    (hs : a.eval s = v) (hown : OwnS w base v E xs) (A : Option Addr) (c n : Nat) (ys : List UInt8) (hx : a.eval x = .slice A n c) (hn : ys.length = n) (hA : BytesAt w A ys)
    (hl : xs.length + n ≤ 140737488355328) (hbase : base ≤ w.heap.size)
    (h : ∀ A' c' w', OwnS w' base (.slice A' (xs ++ ys).length c') E (xs ++ ys) → w.grownBy w' v.ownBlock → K (a.put o.dst (.slice A' (xs ++ ys).length c')) w') :
    if Region.wanted o (yielded ops a.tmps) = true then Oper.wp P o a w K Q else F := by
  have hw : Region.wanted o (yielded ops a.tmps) = true := by simp [Region.wanted, hgd]
  rw [if_pos hw]
  obtain ⟨A', c', w', hr, h2, h3⟩ := run_append_s (P := P) t o.type ht hi hown A c n hn hA hl hbase
  unfold Oper.wp execOp
  simp only [ho, resolve, invoke, builtin, Sem.run_bind, Sem.run_pure, Result.andThen_ok, List.map_toArray, List.map_cons, List.map_nil, hs, hx, hr]
  exact h A' c' w' h2 h3
end
end Go.Proofs.Ytgkddhncfaeidaa
