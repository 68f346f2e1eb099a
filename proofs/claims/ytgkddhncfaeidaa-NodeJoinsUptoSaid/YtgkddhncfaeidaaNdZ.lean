/- Own rows of whatever elements: what frames leave of them; what they read as. -/
import Derived.Test.YtgkddhncfaeidaaNdT
import Derived.Great.BuildSlice
import Derived.Test.YtgkddhncfaeidaaOwnV
import Derived.Test.YtgkddhncfaeidaaFloat
namespace Go.Proofs.Ytgkddhncfaeidaa
open Go.ChangeShapes Go.WideShapes Go.ChangeAt Go.RowKit CrcM PageM
set_option linter.unusedVariables false

section
variable {w w' : World} {base sz n : Nat} {v : Value} {E : TypeId} {us : List Value}
theorem row_form (h : w.ownsRow base E sz v n us) : ∃ A c, v = .slice A n c := by
  rcases h.2 with ⟨rfl, rfl⟩ | ⟨g, cap, cur, rfl, _⟩
  · exact ⟨none, 0, rfl⟩
  · exact ⟨_, _, rfl⟩
theorem row_keep (h : w.ownsRow base E sz v n us) (hk : ∀ k cur, base ≤ k → w.heap[k]? = some (.cells cur E (0, 0)) → w'.heap[k]? = w.heap[k]?) : w'.ownsRow base E sz v n us := by
  refine ⟨h.1, ?_⟩
  rcases h.2 with hn | ⟨g, cap, cur, rfl, hb, hgg, rest⟩
  · exact .inl hn
  · exact .inr ⟨g, cap, cur, rfl, hb, (hk g cur hb hgg).trans hgg, rest⟩
theorem row_below (h : w.ownsRow base E sz v n us) (hb : Below w.heap.size w w') : w'.ownsRow base E sz v n us := row_keep h (fun k cur _ hc => hb.block k (Array.getElem?_eq_some_iff.1 hc).1)
theorem row_cap {A : Option Addr} {c : Nat} (h : w.ownsRow base E sz (.slice A n c) n us) : n ≤ c ∧ c ≤ maxLen := by
  rcases h.2 with ⟨h1, h2⟩ | ⟨g, cap, cur, hv, _, _, h3, h4, _⟩
  · injection h1 with h5 h6 h7
    unfold maxLen
    omega
  · injection hv with h5 h6 h7
    subst h7
    exact ⟨h3, h4⟩
/-- A row of another kind of elements is grown: blocks of other types stay. -/
theorem typed_kept (h : w.ownsRow base E sz v n us) (hg : w.grownBy w' v.ownBlock) {g : Nat} {cs : Array Value} {T : TypeId} (hT : T ≠ E) (h0 : w.heap[g]? = some (.cells cs T (0, 0))) : w'.heap[g]? = w.heap[g]? :=
  hg.block g (Array.getElem?_eq_some_iff.1 h0).1 (fun e => by
    rcases h.2 with ⟨hv, _⟩ | ⟨g', cap, cur, hv, _, hh, _⟩
    · rw [hv] at e; cases e
    · rw [hv] at e
      injection e with e
      subst e
      rw [hh] at h0
      injection h0 with h0
      injection h0 with _ h0
      exact hT h0.symm)
theorem row_cells {A : Option Addr} {c : Nat} (h : w.ownsRow base E sz (.slice A n c) n us) (hne : us ≠ []) : ∃ g, A = some ⟨g, 0, none⟩ ∧ base ≤ g ∧ ∀ j u, us[j]? = some u → w.cell? ⟨g, j, none⟩ = some u := by
  have hl := h.1
  rcases h.2 with ⟨h1, h2⟩ | ⟨g, cap, cur, hv, hb, hh, _⟩
  · exfalso
    subst h2
    rw [Nat.zero_mul] at hl
    exact hne (List.eq_nil_of_length_eq_zero hl)
  · injection hv with h5 h6 h7
    refine ⟨g, h5, hb, fun j u hj => ?_⟩
    subst h5
    have := h.cells (g := g) rfl j u hj
    rw [Addr.add_mid] at this
    simpa using this
theorem flat_get {α : Type} {f : α → List Value} {m : Nat} (hf : ∀ x, (f x).length = m) : ∀ (l : List α) (i : Nat) (x : α) (j : Nat) (u : Value), l[i]? = some x → (f x)[j]? = some u → (l.flatMap f)[i * m + j]? = some u
  | [], i, x, j, u, h, _ => by simp at h
  | a :: t, 0, x, j, u, h, hu => by
    simp at h
    subst h
    have hj : j < (f a).length := (List.getElem?_eq_some_iff.1 hu).1
    simp only [List.flatMap_cons, Nat.zero_mul, Nat.zero_add]
    rw [List.getElem?_append_left hj, hu]
  | a :: t, i + 1, x, j, u, h, hu => by
    have h' : t[i]? = some x := by simpa using h
    simp only [List.flatMap_cons]
    rw [List.getElem?_append_right (by rw [hf, Nat.succ_mul]; omega), hf, show (i + 1) * m + j - m = i * m + j by rw [Nat.succ_mul]; omega]
    exact flat_get hf t i x j u h' hu
theorem flat_takeV {α : Type} {f : α → List Value} {l : List α} {k : Nat} {x : α} (h : l[k]? = some x) : (l.take (k + 1)).flatMap f = (l.take k).flatMap f ++ f x := by
  rw [List.take_add_one, h]
  simp
theorem EnAt.of_row {es : List EntD} {A : Option Addr} {c : Nat} (h : w.ownsRow base E 8 (.slice A n c) n (es.flatMap enC)) : EnAt w A es := fun hne => by
  obtain ⟨g, rfl, _, hc⟩ := row_cells h (by intro e; obtain ⟨a, t, rfl⟩ := List.exists_cons_of_ne_nil hne; simp [enC] at e)
  refine ⟨g, 0, rfl, fun i e hi => ?_⟩
  have q := fun j u hu => hc _ u (flat_get (f := enC) (m := 8) (fun _ => rfl) es i e j u hi hu)
  simp only [Nat.zero_add]
  exact ⟨q 0 _ rfl, q 1 _ rfl, q 2 _ rfl, q 3 _ rfl, q 4 _ rfl, q 5 _ rfl, q 6 _ rfl, q 7 _ rfl⟩
theorem KyAt.of_row {ks : List KeyD} {A : Option Addr} {c : Nat} (h : w.ownsRow base E 2 (.slice A n c) n (ks.flatMap kyC)) : KyAt w A ks := fun hne => by
  obtain ⟨g, rfl, _, hc⟩ := row_cells h (by intro e; obtain ⟨a, t, rfl⟩ := List.exists_cons_of_ne_nil hne; simp [kyC] at e)
  refine ⟨g, 0, rfl, fun i e hi => ?_⟩
  have q := fun j u hu => hc _ u (flat_get (f := kyC) (m := 2) (fun _ => rfl) ks i e j u hi hu)
  simp only [Nat.zero_add]
  exact ⟨q 0 _ rfl, q 1 _ rfl⟩
def kdC (z : Int) : Value := .int .i64 z
theorem KdAt.of_row {ds : List Int} {A : Option Addr} {c : Nat} (h : w.ownsRow base E 1 (.slice A n c) n (ds.map kdC)) : KdAt w A ds := fun hne => by
  obtain ⟨g, rfl, _, hc⟩ := row_cells h (by intro e; exact hne (List.map_eq_nil_iff.1 e))
  refine ⟨g, 0, rfl, fun i z hi => ?_⟩
  have := hc i (kdC z) (by rw [List.getElem?_map, hi]; rfl)
  simpa [kdC] using this
end
theorem fill_eight (C cells : Array Value) (hC : C.size = 8) (hn : cells.size = 8) : Instr.fill (fun i => some (i * 8, 8)) cells [(0, .agg C)] = some C := by
  have := Great.fill_whole (s := 8) (by omega) [.agg C] cells (fun v hv => by simp at hv; subst hv; exact hC) (by simp [hn])
  simpa [Value.cells] using this
theorem fill_twoN (C cells : Array Value) (hC : C.size = 2) (hn : cells.size = 2) : Instr.fill (fun i => some (i * 2, 2)) cells [(0, .agg C)] = some C := by
  have := Great.fill_whole (s := 2) (by omega) [.agg C] cells (fun v hv => by simp at hv; subst hv; exact hC) (by simp [hn])
  simpa [Value.cells] using this
theorem enC_one (e : EntD) : ∀ u ∈ enC e, u.oneCell' = true := by
  intro u hu
  simp [enC] at hu
  rcases hu with rfl | rfl | rfl | rfl | rfl | rfl | rfl | rfl <;> rfl
theorem kyC_one (k : KeyD) : ∀ u ∈ kyC k, u.oneCell' = true := by
  intro u hu
  simp [kyC] at hu
  rcases hu with rfl | rfl <;> rfl

/-- A node in the making: its block, and its three rows. -/
structure ToS (w W wr : World) (Tout TE TK TD : TypeId) (g3 : Nat) (lf : Bool) (vE vK vD : Value) (kE kK nd : Nat) (es : List EntD) (ks : List KeyD) (ds : List Int) : Prop where
  bel : Below (w.heap.size + 1) W wr
  res : ∃ Z, wr.heap[w.heap.size + 1]? = some (.cells Z Tout (0, 0)) ∧ Z.size = 4
  out : wr.heap[g3]? = some (.cells #[.bool lf, vE, vK, vD] Tout (0, 0))
  rowE : wr.ownsRow (w.heap.size + 1) TE 8 vE kE ((es.take kE).flatMap enC)
  rowK : wr.ownsRow (w.heap.size + 1) TK 2 vK kK ((ks.take kK).flatMap kyC)
  rowD : wr.ownsRow (w.heap.size + 1) TD 1 vD nd (ds.map kdC)
  gl : w.heap.size + 1 < g3
  ty : TE ≠ Tout ∧ TK ≠ Tout ∧ TD ≠ Tout ∧ TE ≠ TK ∧ TE ≠ TD ∧ TK ≠ TD
section
variable {w W wr w1 w2 : World} {Tout TE TK TD : TypeId} {g3 : Nat} {lf : Bool} {vE vK vD v' : Value} {kE kK nd : Nat} {es : List EntD} {ks : List KeyD} {ds : List Int}
theorem ToS.below (h : ToS w W wr Tout TE TK TD g3 lf vE vK vD kE kK nd es ks ds) (hb : Below wr.heap.size wr w1) : ToS w W w1 Tout TE TK TD g3 lf vE vK vD kE kK nd es ks ds := by
  have hlt := (Array.getElem?_eq_some_iff.1 h.out).1
  have := h.gl
  refine { h with bel := h.bel.trans (hb.mono (by omega)), res := ?_, out := (hb.block _ hlt).trans h.out, rowE := row_below h.rowE hb, rowK := row_below h.rowK hb, rowD := row_below h.rowD hb }
  obtain ⟨Z, h1, h2⟩ := h.res
  exact ⟨Z, (hb.block _ (by omega)).trans h1, h2⟩
/-- A row is grown. -/
theorem ToS.grown (h : ToS w W wr Tout TE TK TD g3 lf vE vK vD kE kK nd es ks ds) {T : TypeId} {v : Value} {sz m : Nat} {us : List Value} (hrow : wr.ownsRow (w.heap.size + 1) T sz v m us) (hg : wr.grownBy w1 v.ownBlock) (hT : Tout ≠ T) :
    Below (w.heap.size + 1) W w1 ∧ (∃ Z, w1.heap[w.heap.size + 1]? = some (.cells Z Tout (0, 0)) ∧ Z.size = 4) ∧ w1.heap[g3]? = some (.cells #[.bool lf, vE, vK, vD] Tout (0, 0)) := by
  have hlt := (Array.getElem?_eq_some_iff.1 h.out).1
  have := h.gl
  refine ⟨h.bel.grown hg (by omega) (fun k hk => (hrow.lt k hk).1), ?_, (typed_kept hrow hg hT h.out).trans h.out⟩
  obtain ⟨Z, h1, h2⟩ := h.res
  exact ⟨Z, (typed_kept hrow hg hT h1).trans h1, h2⟩
theorem row_set {base sz n i : Nat} {v u : Value} {E T : TypeId} {us : List Value} {g : Nat} {cs : Array Value} (h : w.ownsRow base E sz v n us) (hg : w.heap[g]? = some (.cells cs T (0, 0))) (hT : E ≠ T) : (w.setCell ⟨g, i, none⟩ u).ownsRow base E sz v n us :=
  row_keep h (fun k cur _ hc => Below.heap_setCell w ⟨g, i, none⟩ u k (fun e => by
    have e' : k = g := e
    subst e'
    rw [hg] at hc
    injection hc with hc
    injection hc with _ hc
    exact hT hc.symm))
theorem ToS.setE (h : ToS w W wr Tout TE TK TD g3 lf vE vK vD kE kK nd es ks ds) (hg : wr.grownBy w1 vE.ownBlock) (ho : w1.ownsRow (w.heap.size + 1) TE 8 v' (kE + 1) ((es.take (kE + 1)).flatMap enC)) : ToS w W (w1.setCell ⟨g3, 1, none⟩ v') Tout TE TK TD g3 lf v' vK vD (kE + 1) kK nd es ks ds := by
  obtain ⟨t1, t2, t3, t4, t5, t6⟩ := h.ty
  obtain ⟨b1, ⟨Z, r1, r2⟩, o1⟩ := h.grown h.rowE hg (Ne.symm t1)
  have hgl := h.gl
  have hlt := (Array.getElem?_eq_some_iff.1 o1).1
  refine { h with bel := ⟨b1.os, b1.tape, b1.output, by have := b1.size; simp; omega, fun k hk => (Below.heap_setCell w1 ⟨g3, 1, none⟩ v' k (by show k ≠ g3; omega)).trans (b1.block k hk)⟩, res := ⟨Z, (Below.heap_setCell w1 ⟨g3, 1, none⟩ v' _ (by show w.heap.size + 1 ≠ g3; omega)).trans r1, r2⟩, out := (heap_setCell_same w1 g3 1 _ _ v' o1).trans rfl, rowE := row_set ho o1 t1, rowK := row_set (row_keep h.rowK (fun k cur _ hc => typed_kept h.rowE hg (Ne.symm t4) hc)) o1 t2, rowD := row_set (row_keep h.rowD (fun k cur _ hc => typed_kept h.rowE hg (Ne.symm t5) hc)) o1 t3 }
theorem ToS.setK (h : ToS w W wr Tout TE TK TD g3 lf vE vK vD kE kK nd es ks ds) (hg : wr.grownBy w1 vK.ownBlock) (ho : w1.ownsRow (w.heap.size + 1) TK 2 v' (kK + 1) ((ks.take (kK + 1)).flatMap kyC)) : ToS w W (w1.setCell ⟨g3, 2, none⟩ v') Tout TE TK TD g3 lf vE v' vD kE (kK + 1) nd es ks ds := by
  obtain ⟨t1, t2, t3, t4, t5, t6⟩ := h.ty
  obtain ⟨b1, ⟨Z, r1, r2⟩, o1⟩ := h.grown h.rowK hg (Ne.symm t2)
  have hgl := h.gl
  have hlt := (Array.getElem?_eq_some_iff.1 o1).1
  refine { h with bel := ⟨b1.os, b1.tape, b1.output, by have := b1.size; simp; omega, fun k hk => (Below.heap_setCell w1 ⟨g3, 2, none⟩ v' k (by show k ≠ g3; omega)).trans (b1.block k hk)⟩, res := ⟨Z, (Below.heap_setCell w1 ⟨g3, 2, none⟩ v' _ (by show w.heap.size + 1 ≠ g3; omega)).trans r1, r2⟩, out := (heap_setCell_same w1 g3 2 _ _ v' o1).trans rfl, rowK := row_set ho o1 t2, rowE := row_set (row_keep h.rowE (fun k cur _ hc => typed_kept h.rowK hg t4 hc)) o1 t1, rowD := row_set (row_keep h.rowD (fun k cur _ hc => typed_kept h.rowK hg (Ne.symm t6) hc)) o1 t3 }
theorem KdAt.cells {A : Option Addr} (h : KdAt w A ds) : CellsAt w A (ds.map kdC) := fun hne => by
  obtain ⟨b, off, hA, hc⟩ := h (fun e => hne (by rw [e]; rfl))
  refine ⟨b, off, hA, fun k hk => ?_⟩
  have hk' : k < ds.length := by simpa using hk
  rw [hc k ds[k] (List.getElem?_eq_getElem hk')]
  simp [kdC]
theorem kdC_one (ds : List Int) : ∀ u ∈ ds.map kdC, u.oneCell' = true := by
  intro u hu
  simp [kdC] at hu
  obtain ⟨a, _, rfl⟩ := hu
  rfl
theorem row_set4 {base sz n : Nat} {v a b c d : Value} {E T : TypeId} {us : List Value} {g : Nat} {cs : Array Value} (h : w.ownsRow base E sz v n us) (hg : w.heap[g]? = some (.cells cs T (0, 0))) (hT : E ≠ T) :
    ((((w.setCell ⟨g, 0, none⟩ a).setCell ⟨g, 1, none⟩ b).setCell ⟨g, 2, none⟩ c).setCell ⟨g, 3, none⟩ d).ownsRow base E sz v n us := by
  have h1 := row_set (i := 0) (u := a) h hg hT
  have g1 := heap_setCell_same w g 0 cs T a hg
  have h2 := row_set (i := 1) (u := b) h1 g1 hT
  have g2 := heap_setCell_same _ g 1 _ T b g1
  have h3 := row_set (i := 2) (u := c) h2 g2 hT
  have g3 := heap_setCell_same _ g 2 _ T c g2
  exact row_set (i := 3) (u := d) h3 g3 hT
theorem ToS.start {wx : World} {Z : Array Value} (hb : Below W.heap.size W wx) (hW : W.heap.size = w.heap.size + 2) (hz : W.heap[w.heap.size + 1]? = some (.cells Z Tout (0, 0))) (hZ : Z.size = 4) (ho : wx.heap[g3]? = some (.cells #[.bool lf, .slice none 0 0, .slice none 0 0, vD] Tout (0, 0))) (hg3 : W.heap.size ≤ g3)
    (hD : wx.ownsRow W.heap.size TD 1 vD nd (ds.map kdC)) (ty : TE ≠ Tout ∧ TK ≠ Tout ∧ TD ≠ Tout ∧ TE ≠ TK ∧ TE ≠ TD ∧ TK ≠ TD) : ToS w W wx Tout TE TK TD g3 lf (.slice none 0 0) (.slice none 0 0) vD 0 0 nd es ks ds where
  bel := hb.mono (by omega)
  res := ⟨Z, (hb.block _ (by omega)).trans hz, hZ⟩
  out := ho
  rowE := World.ownsRow_nil _ _ _ _
  rowK := World.ownsRow_nil _ _ _ _
  rowD := by
    refine ⟨hD.1, ?_⟩
    rcases hD.2 with hn | ⟨g, cap, cur, rfl, hg, rest⟩
    · exact .inl hn
    · exact .inr ⟨g, cap, cur, rfl, by omega, rest⟩
  gl := by omega
  ty := ty
end
end Go.Proofs.Ytgkddhncfaeidaa
