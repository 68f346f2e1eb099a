/- Rows of bytes that a call owns: append behind them, read as a text. No program is named here. -/
import Derived.Test.YtgkddhncfaeidaaCom
import Derived.Maps.AppendAt
import Derived.Laws.BytesArg
import Derived.Laws.OwnMore
import Derived.OwnWalk
namespace Go.Proofs.Ytgkddhncfaeidaa
open Go.RowKit

/-- A byte as a value. -/
def bv (c : UInt8) : Value := .int .u8 (c.toNat : Int)

theorem bv_one (xs : List UInt8) : ∀ u ∈ xs.map bv, u.oneCell' = true := by
  intro u hu
  obtain ⟨c, _, rfl⟩ := List.mem_map.1 hu
  rfl

/-- The row g, of room cap, from block base on, begins with these bytes and is owned. -/
def OwnB (w : World) (base g cap : Nat) (E : TypeId) (xs : List UInt8) : Prop :=
  w.ownsRow base E 1 (.slice (some ⟨g, 0, none⟩) xs.length cap) xs.length (xs.map bv)

section
variable {w w' : World} {base g cap : Nat} {E : TypeId} {xs ys : List UInt8}

theorem OwnB.parts (h : OwnB w base g cap E xs) : base ≤ g ∧ xs.length ≤ cap ∧ cap ≤ maxLen ∧ ∃ cur : Array Value, w.heap[g]? = some (.cells cur E (0, 0)) ∧ cur.size = cap ∧ cur.toList.take xs.length = xs.map bv := by
  rcases h.2 with ⟨h0, _⟩ | ⟨g', cap', cur, hv, hb, hh, hn, hm, hs, ht⟩
  · cases h0
  · simp at hv
    obtain ⟨rfl, rfl⟩ := hv
    exact ⟨hb, hn, hm, cur, hh, by simpa using hs, by simpa using ht⟩
theorem OwnB.lt (h : OwnB w base g cap E xs) : g < w.heap.size := by
  obtain ⟨_, _, _, cur, hh, _⟩ := h.parts
  exact (Array.getElem?_eq_some_iff.1 hh).1
theorem OwnB.bytes (h : OwnB w base g cap E xs) : BytesAt w (some ⟨g, 0, none⟩) xs := fun _ =>
  ⟨g, 0, rfl, fun k hk => by
    have := World.ownsRow.cellAt (g := g) h k (by simpa using hk)
    rw [Nat.zero_add, this]
    simp [hk, bv]⟩
theorem OwnB.keep (h : OwnB w base g cap E xs) (e : w'.heap[g]? = w.heap[g]?) : OwnB w' base g cap E xs := by
  obtain ⟨hb, hn, hm, cur, hh, hs, ht⟩ := h.parts
  exact ⟨by simp, .inr ⟨g, cap, cur, rfl, hb, e.trans hh, hn, hm, by simpa using hs, by simpa using ht⟩⟩
theorem OwnB.below {B : Nat} (h : OwnB w base g cap E xs) (hb : Below B w w') (hg : g < B) : OwnB w' base g cap E xs := h.keep (hb.block g hg)
theorem OwnB.alloc (h : OwnB w base g cap E xs) (o : Obj) : OwnB (w.alloc o) base g cap E xs := h.keep (Below.heap_alloc w o g h.lt)
theorem OwnB.new (w : World) (E : TypeId) (xs : List UInt8) (base : Nat) (hb : base ≤ w.heap.size) (hl : xs.length ≤ maxLen) : OwnB (w.alloc (.cells (xs.map bv).toArray E)) base w.heap.size xs.length E xs :=
  ⟨by simp, .inr ⟨w.heap.size, xs.length, _, rfl, hb, heap_alloc_new w _, Nat.le_refl _, hl, by simp, by simp [List.take_of_length_le]⟩⟩

theorem OwnB.cellAt (h : OwnB w base g cap E xs) (j : Nat) (hj : j < xs.length) : w.cell? ⟨g, j, none⟩ = some (.int .u8 ((xs.getD j 0).toNat : Int)) := by
  have := World.ownsRow.cellAt (g := g) h j (by simpa using hj)
  rw [this]
  simp [hj, bv]
theorem OwnB.frozenAt (h : OwnB w base g cap E xs) (j : Nat) : w.frozen? ⟨g, j, none⟩ = false := World.ownsRow.frozenAt (g := g) h j
theorem OwnB.stored (h : OwnB w base g cap E xs) (j : Nat) (_hj : j < xs.length) (c : UInt8) : OwnB (w.setCell ⟨g, j, none⟩ (.int .u8 (c.toNat : Int))) base g cap E (xs.set j c) := by
  obtain ⟨hb, hn, hm, cur, hh, hs, ht⟩ := h.parts
  have hh2 := heap_setCell_same w g j cur E (.int .u8 (c.toNat : Int)) hh
  refine ⟨by simp, .inr ⟨g, cap, _, by simp, hb, hh2, by simpa using hn, hm, by simpa using hs, ?_⟩⟩
  simp only [List.length_set, Nat.mul_one, Array.toList_setIfInBounds]
  rw [List.take_set, ht, List.map_set]
  rfl
theorem OwnB.drew (h : OwnB w base g cap E xs) : OwnB w.drew base g cap E xs := h

theorem byteV_cells {A : Option Addr} (h : BytesAt w A ys) (hy : ys ≠ []) : ∃ ad, A = some ad ∧ ∀ j u, (ys.map bv)[j]? = some u → w.cell? (ad.add j) = some u := by
  obtain ⟨b, off, ha, hc⟩ := h hy
  refine ⟨⟨b, off, none⟩, ha, fun j u hu => ?_⟩
  have hj : j < ys.length := by
    rcases Nat.lt_or_ge j ys.length with h | h
    · exact h
    · simp [List.getElem?_eq_none h] at hu
  have hadd : (⟨b, off, none⟩ : Addr).add j = ⟨b, off + j, none⟩ := by unfold Addr.add; split <;> simp_all
  rw [hadd, hc j hj]
  simpa [List.getElem?_eq_getElem hj, bv] using hu

theorem _root_.Go.Proofs.Ytgkddhncfaeidaa.BytesAt.take {A : Option Addr} (h : BytesAt w A xs) (n : Nat) : BytesAt w A (xs.take n) := fun hne => by
  obtain ⟨b, off, ha, hc⟩ := h (by intro h0; subst h0; simp at hne)
  refine ⟨b, off, ha, fun k hk => ?_⟩
  have hk' : k < xs.length := by simp at hk; omega
  rw [hc k hk']
  simp

/-- Behind a cut at k: nothing is left, or the row from there on. -/
theorem _root_.Go.Proofs.Ytgkddhncfaeidaa.BytesAt.cut {A : Option Addr} (h : BytesAt w A xs) (k : Nat) (A' : Option Addr) (hA : k < xs.length → A' = A.map (·.add k)) : BytesAt w A' (xs.drop k) := fun hne => by
  have hk0 : k < xs.length := by
    rcases Nat.lt_or_ge k xs.length with h | h
    · exact h
    · exact absurd (List.drop_eq_nil_of_le h) hne
  obtain ⟨b, off, ha, hc⟩ := h (by intro h0; subst h0; simp at hk0)
  have hadd : (⟨b, off, none⟩ : Addr).add k = ⟨b, off + k, none⟩ := by unfold Addr.add; split <;> simp_all
  refine ⟨b, off + k, by rw [hA hk0, ha, Option.map_some, hadd], fun i hi => ?_⟩
  have hi' : k + i < xs.length := by simp at hi; omega
  rw [Nat.add_assoc, hc (k + i) hi']
  simp

/-- The address behind a cut of an own row, as the walk writes it. -/
theorem cut_addr {g k n c : Nat} (hk : k < n) (hn : n ≤ c) : (if c = k then some (⟨g, 0, none⟩ : Addr) else some ⟨g, k, none⟩) = (some (⟨g, 0, none⟩ : Addr)).map (·.add k) := by
  rw [if_neg (by omega), Option.map_some]
  congr 1
  unfold Addr.add
  split
  · simp_all
  · simp

variable {P : Program}

theorem run_append_bytes (t ty : TypeId) (ht : P.underlying t = some (.slice E)) (hi : (P.info? E).map (fun i => (i.zero, i.size, i.bytes)) = some (some (.int .u8 0), 1, 1))
    (hown : OwnB w base g cap E xs) (A : Option Addr) (c : Nat) (hA : BytesAt w A ys) (hl : xs.length + ys.length ≤ 140737488355328) (hbase : base ≤ w.heap.size) :
    ∃ g' cap' w', (Builtin.append_ #[t, t] ty #[.slice (some ⟨g, 0, none⟩) xs.length cap, .slice A ys.length c]).run P w = .ok (.slice (some ⟨g', 0, none⟩) (xs ++ ys).length cap') w' ∧
      OwnB w' base g' cap' E (xs ++ ys) ∧ w.grownBy w' (some g) ∧ (g' = g ∨ g' = w.heap.size) := by
  obtain ⟨i, hi0, hz, hs, hb⟩ := info_parts hi
  by_cases hy : ys = []
  · subst hy
    refine ⟨g, cap, w, ?_, by simpa using hown, World.grownBy.refl w _, .inl rfl⟩
    obtain ⟨_, hn, _⟩ := hown.parts
    cases A <;> simp [Builtin.append_, run_underlying ht, sizeOf, typeInfo, hi0, Builtin.lenOf, Builtin.firstCells, hn, storeCells, loadCells, loadCellsFrom]
  · obtain ⟨ad, rfl, hc⟩ := byteV_cells hA hy
    obtain ⟨v', w', hr, h2, h3, h4, h5⟩ := run_append_own_at (P := P) w base t ty E i _ 1 1 ht hi0 hz hs hb rfl (by omega) (.slice (some ⟨g, 0, none⟩) xs.length cap) xs.length (xs.map bv) hown
      ad ys.length c (ys.map bv) (by simp) hc (bv_one ys) (by unfold maxLen; omega) (by omega) hbase
    have hpos : 0 < ys.length := List.length_pos_iff.2 hy
    obtain ⟨g', cap', hv⟩ : ∃ g' cap', v' = .slice (some ⟨g', 0, none⟩) (xs.length + ys.length) cap' := by
      rcases h2.2 with ⟨_, h0⟩ | ⟨g', cap', _, hv, _⟩
      · omega
      · exact ⟨g', cap', hv⟩
    subst hv
    refine ⟨g', cap', w', by rw [hr, List.length_append], ?_, h3, ?_⟩
    · unfold OwnB
      rw [List.length_append, List.map_append]
      exact h2
    · simpa [Value.ownBlock] using h5

theorem wpList_append_bytes {ops : Array Oper} {rest : List Oper} {o : Oper} {a : Act} {Q : Exit → Act → World → Prop} (hgd : o.guard = none) (s x : Operand) (t : TypeId)
    (ho : o.op = .call { callee := .builtin .append, args := #[s, x], argTypes := #[t, t] }) (ht : P.underlying t = some (.slice E)) (hi : (P.info? E).map (fun i => (i.zero, i.size, i.bytes)) = some (some (.int .u8 0), 1, 1))
    (hs : a.eval s = .slice (some ⟨g, 0, none⟩) xs.length cap) (hown : OwnB w base g cap E xs) (A : Option Addr) (c : Nat) (hx : a.eval x = .slice A ys.length c) (hA : BytesAt w A ys)
    (hl : xs.length + ys.length ≤ 140737488355328) (hbase : base ≤ w.heap.size)
    (h : ∀ g' cap' w', OwnB w' base g' cap' E (xs ++ ys) → w.grownBy w' (some g) → (g' = g ∨ g' = w.heap.size) → wpList P ops Q rest (a.put o.dst (.slice (some ⟨g', 0, none⟩) (xs ++ ys).length cap')) w') : wpList P ops Q (o :: rest) a w :=
  wpList_plain hgd fun _ hK => by
    obtain ⟨g', cap', w', hr, h2, h3, h4⟩ := run_append_bytes (P := P) t o.type ht hi hown A c hA hl hbase
    unfold Oper.wp execOp
    simp only [ho, resolve, invoke, builtin, Sem.run_bind, Sem.run_pure, Result.andThen_ok, List.map_toArray, List.map_cons, List.map_nil, hs, hx, hr]
    exact hK _ _ (h g' cap' w' h2 h3 h4)

/-- Bytes as a text. -/
theorem run_text (src dst : TypeId) (hs : P.underlying src = some (.slice E)) (he : P.underlying E = some (.int .u8)) (hd : P.underlying dst = some .string) (A : Option Addr) (c : Nat) (hA : BytesAt w A xs) :
    (convert src dst (.slice A xs.length c)).run P w = .ok (.string ⟨xs.toArray⟩) w := by
  by_cases hx : xs = []
  · subst hx
    cases A with
    | none => exact run_convert_bytes_nil (P := P) w src E hs he 0 c dst hd
    | some ad =>
      rw [List.length_nil, run_convert_bytes_string w src dst E _ 0 c hs he hd]
      simp [Conv.bytesToString, loadCells, loadCellsFrom]
      rfl
  · obtain ⟨b, off, rfl, hc⟩ := hA hx
    have := run_convert_bytes_arg (P := P) w src E hs he b off xs.length c (xs.map fun u => (u.toNat : Int)) (by simp) (fun i hi => by
      rw [hc i hi]; simp [List.getElem?_eq_getElem hi]) dst hd
    rw [this]
    unfold strOfNums
    rw [List.map_map]
    congr 3
    have : (fun n : Int => UInt8.ofNat n.toNat) ∘ (fun u : UInt8 => (u.toNat : Int)) = id := by
      funext u
      simp
    rw [this, List.map_id]
end
end Go.Proofs.Ytgkddhncfaeidaa
