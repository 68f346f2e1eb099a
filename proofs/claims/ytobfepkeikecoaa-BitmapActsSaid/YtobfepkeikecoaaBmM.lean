/- Bitmaps: plain mathematics, and a map's cells. No program is named here. -/
import Derived.Test.YtobfepkeikecoaaApp
import Derived.Deep.MidRow
namespace Go.Proofs.Ytobfepkeikecoaa
open Go.RowKit
set_option linter.unusedVariables false

/-- The cells of a map. -/
def mapC (p : Int) (U : List Bool) : Array Value := (Value.int .i64 p :: U.map Value.bool).toArray
theorem size_mapC {p : Int} {U : List Bool} (h : U.length = 512) : (mapC p U).size = 513 := by simp [mapC, h]
theorem one_mapC (p : Int) (U : List Bool) : (mapC p U).all (·.oneCell') = true := by
  simp [mapC, Value.oneCell']
theorem mapC_0 (p : Int) (U : List Bool) : (mapC p U)[0]? = some (.int .i64 p) := rfl
theorem mapC_s (p : Int) (U : List Bool) (i : Nat) (h : i < U.length) : (mapC p U)[1 + i]? = some (.bool (U.getD i false)) := by
  unfold mapC
  rw [List.getElem?_toArray, Nat.add_comm, List.getElem?_cons_succ, List.getElem?_map, List.getElem?_eq_getElem h, List.getD_eq_getElem?_getD, List.getElem?_eq_getElem h]
  rfl
theorem mapC_set (p : Int) (U : List Bool) (i : Nat) (b : Bool) : (mapC p U).setIfInBounds (1 + i) (.bool b) = mapC p (U.set i b) := by
  unfold mapC
  rw [List.setIfInBounds_toArray, Nat.add_comm, List.set_cons_succ, List.map_set]

/-- So many pages from a on are in use, or are not. -/
def markN (U : List Bool) (a : Nat) (b : Bool) : Nat → List Bool
  | 0 => U
  | k + 1 => (markN U a b k).set (a + k) b
theorem length_markN (U : List Bool) (a : Nat) (b : Bool) : ∀ k, (markN U a b k).length = U.length
  | 0 => rfl
  | k + 1 => by simp [markN, length_markN U a b k]
theorem getD_set' (U : List Bool) (i j : Nat) (b : Bool) (h : i < U.length) : (U.set i b).getD j false = if j = i then b else U.getD j false := by
  rw [List.getD_eq_getElem?_getD, List.getD_eq_getElem?_getD, List.getElem?_set]
  by_cases hj : i = j
  · subst hj
    simp [h]
  · simp [hj, Ne.symm hj]
theorem getD_markN (U : List Bool) (a : Nat) (b : Bool) (j : Nat) : ∀ k, a + k ≤ U.length → (markN U a b k).getD j false = if a ≤ j ∧ j < a + k then b else U.getD j false
  | 0, _ => by rw [if_neg (by omega)]; rfl
  | k + 1, h => by
    show ((markN U a b k).set (a + k) b).getD j false = _
    rw [getD_set' _ _ _ _ (by rw [length_markN]; omega), getD_markN U a b j k (by omega)]
    by_cases h1 : j = a + k
    · rw [if_pos h1, if_pos (by omega)]
    · rw [if_neg h1]
      by_cases h2 : a ≤ j ∧ j < a + k
      · rw [if_pos h2, if_pos (by omega)]
      · rw [if_neg h2, if_neg (by omega)]

/-- Is page j of a map as it may be? -/
def okAt (p : Int) (U : List Bool) (j : Nat) : Bool := !((decide (j < 2) && !(U.getD j false)) || (decide (p ≤ (j : Int)) && U.getD j false))
/-- May a map be? -/
def okM (p : Int) (U : List Bool) : Prop := 8 ≤ p ∧ p ≤ 512 ∧ ∀ j, j < 512 → okAt p U j = true
instance (p : Int) (U : List Bool) : Decidable (okM p U) := by unfold okM; infer_instance

/-- Are n pages from a on free in both, of p pages? -/
def fits (p : Nat) (U V : List Bool) (n a : Nat) : Prop := a + n ≤ p ∧ ∀ j, j < n → U.getD (a + j) false = false ∧ V.getD (a + j) false = false

/-- A map's block. -/
def MapAt (w : World) (g : Nat) (T : TypeId) (p : Int) (U : List Bool) : Prop := w.heap[g]? = some (.cells (mapC p U) T (0, 0))
theorem MapAt.c0 {w : World} {g : Nat} {T : TypeId} {p : Int} {U : List Bool} (h : MapAt w g T p U) : w.cell? ⟨g, 0, none⟩ = some (.int .i64 p) :=
  (cell_of_row w g 0 _ T _ h).trans (mapC_0 p U)
theorem MapAt.cs {w : World} {g : Nat} {T : TypeId} {p : Int} {U : List Bool} (h : MapAt w g T p U) (i : Nat) (hi : i < U.length) : w.cell? ⟨g, 1 + i, none⟩ = some (.bool (U.getD i false)) :=
  (cell_of_row w g (1 + i) _ T _ h).trans (mapC_s p U i hi)
theorem MapAt.fr {w : World} {g : Nat} {T : TypeId} {p : Int} {U : List Bool} (h : MapAt w g T p U) (i : Nat) : w.frozen? ⟨g, i, none⟩ = false := by
  unfold MapAt at h
  simp [World.frozen?, h]
theorem MapAt.set {w : World} {g : Nat} {T : TypeId} {p : Int} {U : List Bool} (h : MapAt w g T p U) (i : Nat) (b : Bool) : MapAt (w.setCell ⟨g, 1 + i, none⟩ (.bool b)) g T p (U.set i b) := by
  have := heap_setCell_same w g (1 + i) _ T (.bool b) h
  rw [mapC_set] at this
  exact this
theorem MapAt.below {w w' : World} {g B : Nat} {T : TypeId} {p : Int} {U : List Bool} (h : MapAt w g T p U) (hb : Below B w w') (hg : g < B) : MapAt w' g T p U := (hb.block g hg).trans h
theorem MapAt.lt {w : World} {g : Nat} {T : TypeId} {p : Int} {U : List Bool} (h : MapAt w g T p U) : g < w.heap.size := (Array.getElem?_eq_some_iff.1 h).1
theorem MapAt.alloc {w : World} {g : Nat} {T : TypeId} {p : Int} {U : List Bool} (h : MapAt w g T p U) (o : Obj) : MapAt (w.alloc o) g T p U := (Below.heap_alloc w o g h.lt).trans h
theorem MapAt.new (w : World) (T : TypeId) (p : Int) (U : List Bool) : MapAt (w.alloc (.cells (mapC p U) T)) w.heap.size T p U := heap_alloc_new w _
theorem MapAt.range {w : World} {g : Nat} {T : TypeId} {p : Int} {U : List Bool} (h : MapAt w g T p U) : w.rangeAt g 1 (U.map Value.bool) := by
  intro j x hx
  have hj : j < U.length := by
    rcases Nat.lt_or_ge j U.length with h1 | h1
    · exact h1
    · rw [List.getElem?_eq_none (by simpa using h1)] at hx; cases hx
  have := h.cs j hj
  rw [List.getElem?_map, List.getElem?_eq_getElem hj] at hx
  rw [List.getD_eq_getElem?_getD, List.getElem?_eq_getElem hj] at this
  rw [this]
  simpa using hx
end Go.Proofs.Ytobfepkeikecoaa
