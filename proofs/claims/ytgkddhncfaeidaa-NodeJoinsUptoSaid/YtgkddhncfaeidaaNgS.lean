/- Package node's Get: a node that is read, block by block; what bytes are as a node. -/
import Derived.Test.YtgkddhncfaeidaaNdI
import Derived.Test.YtgkddhncfaeidaaNdFr
namespace Go.Proofs.Ytgkddhncfaeidaa
open Go.ChangeShapes Go.WideShapes Go.ChangeAt Go.RowKit CrcM PageM
set_option linter.unusedVariables false

def entsP (n : Nat) (b : List UInt8) : List EntD := (List.range n).map (fun i => entP (b.drop (30 * i)))
def keysP (n : Nat) (b : List UInt8) : List KeyD := (List.range n).map (fun i => keyP (b.drop (14 * i)))
def kidP (b : List UInt8) : Int := s64 (val ((b.drop 12).take 2))
def kidsP (n : Nat) (b : List UInt8) : List Int := (List.range n).map (fun i => kidP (b.drop (14 * i)))
theorem entsP_succ (n : Nat) (b : List UInt8) : entsP (n + 1) b = entsP n b ++ [entP (b.drop (30 * n))] := by simp [entsP, List.range_succ]
theorem keysP_succ (n : Nat) (b : List UInt8) : keysP (n + 1) b = keysP n b ++ [keyP (b.drop (14 * n))] := by simp [keysP, List.range_succ]
theorem kidsP_succ (n : Nat) (b : List UInt8) : kidsP (n + 1) b = kidsP n b ++ [kidP (b.drop (14 * n))] := by simp [kidsP, List.range_succ]
def sizeP (leaf : Bool) : Nat := if leaf = true then 30 else 14
/-- What bytes are as a node, whether it may be or not. -/
def parseN (leaf : Bool) (n : Nat) (b : List UInt8) : NodeD := if leaf = true then ⟨true, entsP n b, [], []⟩ else ⟨false, [], keysP n b, kidsP n b⟩

/-- A node that is being read: its block, its cursor, its three rows. -/
structure GeS (w W wr : World) (lf : Bool) (vE vK vD : Value) (es : List EntD) (ks : List KeyD) (ds : List Int) (ys : List UInt8) : Prop where
  bel : Below (w.heap.size + 1) W wr
  out : wr.heap[w.heap.size + 1]? = some (.cells #[.bool lf, vE, vK, vD] 34 (0, 0))
  cur : CurAt wr (w.heap.size + 2) ys
  rowE : wr.ownsRow (w.heap.size + 3) 77 8 vE es.length (es.flatMap enC)
  rowK : wr.ownsRow (w.heap.size + 3) 46 2 vK ks.length (ks.flatMap kyC)
  rowD : wr.ownsRow (w.heap.size + 3) 3 1 vD ds.length (ds.map kdC)
section
variable {w W wr w1 : World} {lf : Bool} {vE vK vD v' : Value} {es : List EntD} {ks : List KeyD} {ds : List Int} {ys ys' : List UInt8}
theorem GeS.lt (h : GeS w W wr lf vE vK vD es ks ds ys) : w.heap.size + 2 < wr.heap.size := h.cur.lt
theorem GeS.below (h : GeS w W wr lf vE vK vD es ks ds ys) (hb : Below wr.heap.size wr w1) : GeS w W w1 lf vE vK vD es ks ds ys :=
  { h with bel := h.bel.trans (hb.mono (by have := h.lt; omega)), out := (hb.block _ (by have := h.lt; omega)).trans h.out, cur := h.cur.below hb, rowE := row_below h.rowE hb, rowK := row_below h.rowK hb, rowD := row_below h.rowD hb }
theorem cur_typed {w : World} {r : Nat} {ys : List UInt8} (h : CurAt w r ys) {k : Nat} {cs : Array Value} {T : TypeId} (hc : w.heap[k]? = some (.cells cs T (0, 0))) (hT : T ≠ 95) : k ≠ r := fun e => by
  obtain ⟨A, cap, h1, _⟩ := h
  rw [e, h1] at hc
  injection hc with hc
  injection hc with _ hc
  exact hT hc.symm
/-- Bytes are taken. -/
theorem GeS.took (h : GeS w W wr lf vE vK vD es ks ds ys) (hg : wr.grownBy w1 (some (w.heap.size + 2))) (hc : CurAt w1 (w.heap.size + 2) ys') : GeS w W w1 lf vE vK vD es ks ds ys' := by
  have hk : ∀ (k : Nat) (cs : Array Value) (T : TypeId), wr.heap[k]? = some (.cells cs T (0, 0)) → T ≠ 95 → w1.heap[k]? = wr.heap[k]? := fun k cs T h0 hT =>
    hg.block k (Array.getElem?_eq_some_iff.1 h0).1 (fun e => cur_typed h.cur h0 hT (by injection e))
  exact {
    bel := h.bel.grown hg (by have := h.lt; omega) (fun k hk => by injection hk; omega)
    out := (hk _ _ _ h.out (by decide)).trans h.out
    cur := hc
    rowE := row_keep h.rowE (fun k cur _ h0 => hk k cur _ h0 (by decide))
    rowK := row_keep h.rowK (fun k cur _ h0 => hk k cur _ h0 (by decide))
    rowD := row_keep h.rowD (fun k cur _ h0 => hk k cur _ h0 (by decide)) }
theorem cur_set {w : World} {r g i : Nat} {ys : List UInt8} {cs : Array Value} {T : TypeId} {u : Value} (h : CurAt w r ys) (hg : w.heap[g]? = some (.cells cs T (0, 0))) (hne : g ≠ r) (hcs : ∀ (i : Nat) (z : Int), cs[i]? ≠ some (.int .u8 z)) : CurAt (w.setCell ⟨g, i, none⟩ u) r ys := by
  rw [setCell_eq_setRow w g i cs T (0, 0) u hg]
  exact h.setRow hg hne hcs
/-- Another row is grown, newer than the cursor. -/
theorem cur_grown {w w1 : World} {r : Nat} {ys : List UInt8} {base sz n : Nat} {v : Value} {E : TypeId} {us : List Value} (h : CurAt w r ys) (hr : w.ownsRow base E sz v n us) (hg : w.grownBy w1 v.ownBlock) (hE : E ≠ 95) (hb : r ≤ base) : CurAt w1 r ys := by
  obtain ⟨A, cap, h1, h2, h3, h4, h5⟩ := h
  refine ⟨A, cap, (typed_kept hr hg (Ne.symm hE) h1).trans h1, h2, h3, fun hx => ?_, h5⟩
  obtain ⟨b, off, hA, hc⟩ := h4 hx
  have hb' : b < r := h5 hx _ hA
  exact ⟨b, off, hA, fun k hk => (World.cell?_of_block (a := ⟨b, off + k, none⟩) (hg.block b (World.block_lt_of_cell? _ _ (hc k hk)) (fun e => by have := (hr.lt b e.symm).1; omega))).trans (hc k hk)⟩
theorem node_u8 (lf : Bool) {vE vK vD : Value} (hE : ∃ A n c, vE = .slice A n c) (hK : ∃ A n c, vK = .slice A n c) (hD : ∃ A n c, vD = .slice A n c) : ∀ (i : Nat) (z : Int), (#[.bool lf, vE, vK, vD] : Array Value)[i]? ≠ some (.int .u8 z) := by
  obtain ⟨_, _, _, rfl⟩ := hE
  obtain ⟨_, _, _, rfl⟩ := hK
  obtain ⟨_, _, _, rfl⟩ := hD
  intro i z
  match i with
  | 0 => simp
  | 1 => simp
  | 2 => simp
  | 3 => simp
  | i + 4 => simp
theorem GeS.forms (h : GeS w W wr lf vE vK vD es ks ds ys) : (∃ A n c, vE = .slice A n c) ∧ (∃ A n c, vK = .slice A n c) ∧ (∃ A n c, vD = .slice A n c) := by
  obtain ⟨A, c, e1⟩ := row_form h.rowE
  obtain ⟨A2, c2, e2⟩ := row_form h.rowK
  obtain ⟨A3, c3, e3⟩ := row_form h.rowD
  exact ⟨⟨_, _, _, e1⟩, ⟨_, _, _, e2⟩, ⟨_, _, _, e3⟩⟩
theorem bel_set {B : Nat} {W w1 : World} {g i : Nat} {u : Value} (h : Below B W w1) (hg : B ≤ g) : Below B W (w1.setCell ⟨g, i, none⟩ u) :=
  ⟨h.os, h.tape, h.output, by have := h.size; simpa using this, fun k hk => (Below.heap_setCell w1 ⟨g, i, none⟩ u k (by show k ≠ g; omega)).trans (h.block k hk)⟩
/-- A row is grown: what of the rest stays. -/
theorem GeS.grown (h : GeS w W wr lf vE vK vD es ks ds ys) {E : TypeId} {v : Value} {sz m : Nat} {us : List Value} (hr : wr.ownsRow (w.heap.size + 3) E sz v m us) (hg : wr.grownBy w1 v.ownBlock) (h1 : E ≠ 34) (h2 : E ≠ 95) :
    Below (w.heap.size + 1) W w1 ∧ w1.heap[w.heap.size + 1]? = some (.cells #[.bool lf, vE, vK, vD] 34 (0, 0)) ∧ CurAt w1 (w.heap.size + 2) ys :=
  ⟨h.bel.grown hg (by have := h.lt; omega) (fun k hk => by have := (hr.lt k hk).1; omega), (typed_kept hr hg (Ne.symm h1) h.out).trans h.out, cur_grown h.cur hr hg h2 (by omega)⟩
theorem GeS.setE (h : GeS w W wr lf vE vK vD es ks ds ys) {e : EntD} (hg : wr.grownBy w1 vE.ownBlock) (ho : w1.ownsRow (w.heap.size + 3) 77 8 v' (es.length + 1) (es.flatMap enC ++ enC e)) : GeS w W (w1.setCell ⟨w.heap.size + 1, 1, none⟩ v') lf v' vK vD (es ++ [e]) ks ds ys := by
  obtain ⟨b1, o1, c1⟩ := h.grown h.rowE hg (by decide) (by decide)
  obtain ⟨fE, fK, fD⟩ := h.forms
  exact {
    bel := bel_set b1 (by omega)
    out := (heap_setCell_same w1 (w.heap.size + 1) 1 _ _ v' o1).trans rfl
    cur := cur_set c1 o1 (by omega) (node_u8 lf fE fK fD)
    rowE := by rw [List.length_append, List.flatMap_append]; exact row_set (by simpa using ho) o1 (by decide)
    rowK := row_set (row_keep h.rowK (fun k cur _ hc => typed_kept h.rowE hg (by decide) hc)) o1 (by decide)
    rowD := row_set (row_keep h.rowD (fun k cur _ hc => typed_kept h.rowE hg (by decide) hc)) o1 (by decide) }
theorem GeS.setK (h : GeS w W wr lf vE vK vD es ks ds ys) {e : KeyD} (hg : wr.grownBy w1 vK.ownBlock) (ho : w1.ownsRow (w.heap.size + 3) 46 2 v' (ks.length + 1) (ks.flatMap kyC ++ kyC e)) : GeS w W (w1.setCell ⟨w.heap.size + 1, 2, none⟩ v') lf vE v' vD es (ks ++ [e]) ds ys := by
  obtain ⟨b1, o1, c1⟩ := h.grown h.rowK hg (by decide) (by decide)
  obtain ⟨fE, fK, fD⟩ := h.forms
  exact {
    bel := bel_set b1 (by omega)
    out := (heap_setCell_same w1 (w.heap.size + 1) 2 _ _ v' o1).trans rfl
    cur := cur_set c1 o1 (by omega) (node_u8 lf fE fK fD)
    rowK := by rw [List.length_append, List.flatMap_append]; exact row_set (by simpa using ho) o1 (by decide)
    rowE := row_set (row_keep h.rowE (fun k cur _ hc => typed_kept h.rowK hg (by decide) hc)) o1 (by decide)
    rowD := row_set (row_keep h.rowD (fun k cur _ hc => typed_kept h.rowK hg (by decide) hc)) o1 (by decide) }
theorem GeS.setD (h : GeS w W wr lf vE vK vD es ks ds ys) {z : Int} (hg : wr.grownBy w1 vD.ownBlock) (ho : w1.ownsRow (w.heap.size + 3) 3 1 v' (ds.length + 1) (ds.map kdC ++ [kdC z])) : GeS w W (w1.setCell ⟨w.heap.size + 1, 3, none⟩ v') lf vE vK v' es ks (ds ++ [z]) ys := by
  obtain ⟨b1, o1, c1⟩ := h.grown h.rowD hg (by decide) (by decide)
  obtain ⟨fE, fK, fD⟩ := h.forms
  exact {
    bel := bel_set b1 (by omega)
    out := (heap_setCell_same w1 (w.heap.size + 1) 3 _ _ v' o1).trans rfl
    cur := cur_set c1 o1 (by omega) (node_u8 lf fE fK fD)
    rowD := by rw [List.length_append, List.map_append]; exact row_set (by simpa using ho) o1 (by decide)
    rowE := row_set (row_keep h.rowE (fun k cur _ hc => typed_kept h.rowD hg (by decide) hc)) o1 (by decide)
    rowK := row_set (row_keep h.rowK (fun k cur _ hc => typed_kept h.rowD hg (by decide) hc)) o1 (by decide) }
end
end Go.Proofs.Ytgkddhncfaeidaa
