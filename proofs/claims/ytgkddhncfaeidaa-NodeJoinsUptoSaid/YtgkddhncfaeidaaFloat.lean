/- append onto nothing, as a step of a region that draws its order; what such a region keeps. No program is named here. -/
import Derived.Test.YtgkddhncfaeidaaApp
import Derived.Deep.RegionHeld3
import Derived.Deep.DeepCutAuto
import Derived.Laws.CopyOwn
namespace Go.Proofs.Ytgkddhncfaeidaa
open Go.RowKit
section
variable {P : Program} {w w' : World} {E : TypeId}

theorem run_append_nil (t ty : TypeId) (ht : P.underlying t = some (.slice E)) (hi : (P.info? E).map (fun i => (i.zero, i.size, i.bytes)) = some (some (.int .u8 0), 1, 1))
    (A : Option Addr) (c n : Nat) (ys : List UInt8) (hn : ys.length = n) (hA : BytesAt w A ys) (hl : n ≤ 140737488355328) :
    ∃ A' c' w', (Builtin.append_ #[t, t] ty #[.slice none 0 0, .slice A n c]).run P w = .ok (.slice A' n c') w' ∧ BytesAt w' A' ys ∧ n ≤ c' ∧ w.grownBy w' none ∧ (∀ a, A' = some a → w.heap.size ≤ a.block) := by
  obtain ⟨i, hi0, hz, hs, hb⟩ := info_parts hi
  subst hn
  by_cases hy : ys = []
  · subst hy
    refine ⟨none, 0, w, ?_, fun h => absurd rfl h, Nat.le_refl _, World.grownBy.refl w _, fun a h => by cases h⟩
    cases A <;> simp [Builtin.append_, run_underlying ht, sizeOf, typeInfo, hi0, Builtin.lenOf, Builtin.firstCells, loadCells, loadCellsFrom]
  · obtain ⟨ad, rfl, hc⟩ := byteV_cells hA hy
    obtain ⟨v', w', hr, h2, h3, h4, h5⟩ := run_append_own_at (P := P) w w.heap.size t ty E i _ 1 1 ht hi0 hz hs hb rfl (by omega) (.slice none 0 0) 0 [] (World.ownsRow_nil w _ E 1)
      ad ys.length c (ys.map bv) (by simp) hc (bv_one ys) (by unfold maxLen; omega) (by omega) (Nat.le_refl _)
    have hpos : 0 < ys.length := List.length_pos_iff.2 hy
    rw [Nat.zero_add, List.nil_append] at h2
    rcases h2.2 with ⟨_, h0⟩ | ⟨g', cap', cur, hv, hb', hh, hnc, hm, hsz, ht'⟩
    · omega
    · subst hv
      have hown : OwnB w' w.heap.size g' cap' E ys := by unfold OwnB; exact h2
      exact ⟨_, cap', w', hr, hown.bytes, hnc, h3, fun a h => by cases h; exact hb'⟩

theorem step_append_nil {ops : Array Oper} {o : Oper} {a : Act} {K : Act → World → Prop} {Q : Exit → Act → World → Prop} {F : Prop} (hgd : o.guard = none) (s x : Operand) (t : TypeId)
    (ho : o.op = .call { callee := .builtin .append, args := #[s, x], argTypes := #[t, t] })
    (ht : P.underlying t = some (.slice E)) (hi : (P.info? E).map (fun i => (i.zero, i.size, i.bytes)) = some (some (.int .u8 0), 1, 1))
    (hs : a.eval s = .slice none 0 0) (A : Option Addr) (c n : Nat) (ys : List UInt8) (hx : a.eval x = .slice A n c) (hn : ys.length = n) (hA : BytesAt w A ys) (hl : n ≤ 140737488355328)
    (h : ∀ A' c' w', BytesAt w' A' ys → n ≤ c' → w.grownBy w' none → (∀ a, A' = some a → w.heap.size ≤ a.block) → K (a.put o.dst (.slice A' n c')) w') :
    if Region.wanted o (yielded ops a.tmps) = true then Oper.wp P o a w K Q else F := by
  have hw : Region.wanted o (yielded ops a.tmps) = true := by simp [Region.wanted, hgd]
  rw [if_pos hw]
  obtain ⟨A', c', w', hr, h2, h3, h4, h5⟩ := run_append_nil (P := P) (w := w) t o.type ht hi A c n ys hn hA hl
  unfold Oper.wp execOp
  simp only [ho, resolve, invoke, builtin, Sem.run_bind, Sem.run_pure, Result.andThen_ok, List.map_toArray, List.map_cons, List.map_nil, hs, hx, hr]
  exact h A' c' w' h2 h3 h4 h5

theorem grown_below (h : w.grownBy w' none) : Below w.heap.size w w' := ⟨h.os, h.tape, h.output, h.size, fun k hk => h.block k hk (by simp)⟩
theorem below_grown {B : Nat} {w0 : World} (hB : B ≤ w0.heap.size) (hb : Below B w0 w) (h : w.grownBy w' none) : Below B w0 w' :=
  hb.trans ((grown_below h).mono (Nat.le_trans hB hb.size))

theorem below_alloc {B : Nat} {w0 : World} (hB : B ≤ w0.heap.size) (hb : Below B w0 w) (o : Obj) : Below B w0 (w.alloc o) := hb.alloc (Nat.le_trans hB hb.size) o

/-- A block of four cells, by its cells. -/
theorem four_cells {g : Nat} {a b c d : Value} {t : TypeId} (h : w.heap[g]? = some (.cells #[a, b, c, d] t (0, 0))) :
    w.cell? ⟨g, 0, none⟩ = some a ∧ w.cell? ⟨g, 1, none⟩ = some b ∧ w.cell? ⟨g, 2, none⟩ = some c ∧ w.cell? ⟨g, 3, none⟩ = some d ∧
    w.frozen? ⟨g, 0, none⟩ = false ∧ w.frozen? ⟨g, 1, none⟩ = false ∧ w.frozen? ⟨g, 2, none⟩ = false ∧ w.frozen? ⟨g, 3, none⟩ = false := by
  simp [World.cell?, World.frozen?, h]

theorem set_four {g : Nat} {a b c d : Value} {t : TypeId} (h : w.heap[g]? = some (.cells #[a, b, c, d] t (0, 0))) (a' b' c' d' : Value) :
    ((((w.setCell ⟨g, 0, none⟩ a').setCell ⟨g, 1, none⟩ b').setCell ⟨g, 2, none⟩ c').setCell ⟨g, 3, none⟩ d').heap[g]? = some (.cells #[a', b', c', d'] t (0, 0)) := by
  have h1 := heap_setCell_same w g 0 _ t a' h
  have h2 := heap_setCell_same _ g 1 _ t b' h1
  have h3 := heap_setCell_same _ g 2 _ t c' h2
  have h4 := heap_setCell_same _ g 3 _ t d' h3
  rw [h4]
  rfl

theorem below_set4 {B g : Nat} {w0 : World} (hb : Below B w0 w) (hg : B ≤ g) (a' b' c' d' : Value) :
    Below B w0 ((((w.setCell ⟨g, 0, none⟩ a').setCell ⟨g, 1, none⟩ b').setCell ⟨g, 2, none⟩ c').setCell ⟨g, 3, none⟩ d') :=
  (((hb.setCell hg a').setCell hg b').setCell hg c').setCell hg d'

theorem bytes_set4 {g : Nat} {A : Option Addr} {ys : List UInt8} (h : BytesAt w A ys) (hg : ∀ a, A = some a → g < a.block) (a' b' c' d' : Value) :
    BytesAt ((((w.setCell ⟨g, 0, none⟩ a').setCell ⟨g, 1, none⟩ b').setCell ⟨g, 2, none⟩ c').setCell ⟨g, 3, none⟩ d') A ys := fun hne => by
  obtain ⟨b, o, rfl, hc⟩ := h hne
  have hb : b ≠ g := by have := hg _ rfl; simp at this; omega
  refine ⟨b, o, rfl, fun k hk => ?_⟩
  rw [← hc k hk]
  refine World.cell?_of_block ?_
  rw [heap_setCell_other _ _ _ _ hb, heap_setCell_other _ _ _ _ hb, heap_setCell_other _ _ _ _ hb, heap_setCell_other _ _ _ _ hb]

theorem bytes_setRow {g : Nat} {A : Option Addr} {ys : List UInt8} (h : BytesAt w A ys) (hg : ∀ a, A = some a → g < a.block) (cs : Array Value) : BytesAt (w.setRow g cs) A ys := fun hne => by
  obtain ⟨b, o, rfl, hc⟩ := h hne
  have hb : b ≠ g := by have := hg _ rfl; simp at this; omega
  refine ⟨b, o, rfl, fun k hk => ?_⟩
  rw [← hc k hk]
  exact cell_setRow_other _ _ _ _ hb

/-- What such a region keeps: all that stood below B, and one cell of it. -/
def Kept (B : Nat) (w0 : World) (a : Addr) (v : Value) (w : World) : Prop := Below B w0 w ∧ w.cell? a = some v
section
variable {B : Nat} {w0 : World} {a : Addr} {v : Value}
theorem kept_new (ha : a.block < B) (hc : w0.cell? a = some v) (hb : Below B w0 w) : Below B w0 w ∧ w.cell? a = some v := ⟨hb, (World.cell?_of_block (hb.block _ ha)).trans hc⟩
end
end
end Go.Proofs.Ytgkddhncfaeidaa
