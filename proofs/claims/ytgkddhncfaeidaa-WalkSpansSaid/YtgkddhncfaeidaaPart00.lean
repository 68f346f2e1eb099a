/- Several texts in one: What all walks of this seat share: worlds that are as a world was below a block, a region whose order is drawn walked over these, bytes in memory. No program is named here. Rows of bytes that a call owns: append behind them, read as a text. No program is named here. Bitmaps: plain mathematics, and a map's cells. No program is named here. append onto nothing, as a step of a region that draws its order; what such a region keeps. No program is named here. Slices of bytes that a call owns, nil among them: append behind them, one byte or many. No program is named here. -/
import Derived.WalkKit
import Derived.BigQuiet
import Derived.Deep.QuietTactic
import Derived.Deep.WholeRow
import Derived.Deep.OwnRows
import Derived.Laws.BitsAllLaws
import Derived.Below
import Derived.Lib.Hide
import Derived.Maps.AppendAt
import Derived.Laws.BytesArg
import Derived.Laws.OwnMore
import Derived.OwnWalk
import Derived.Deep.MidRow
import Derived.Deep.RegionHeld3
import Derived.Deep.DeepCutAuto
import Derived.Laws.CopyOwn
set_option linter.unusedSimpArgs false
set_option linter.unusedVariables false
namespace Go.Proofs.Ytgkddhncfaeidaa
open Go.RowKit

/-- The worlds that are below block B as w was. -/
structure SubW (B : Nat) (w : World) where
  at_ : World
  ok_ : Below B w at_

instance (B : Nat) (w : World) : Nonempty (SubW B w) := ⟨⟨w, Below.refl _ _⟩⟩

theorem below_drewN {B : Nat} {a w : World} (h : Below B a w) (n : Nat) : Below B a (w.drewN n) := ⟨h.os, h.tape, h.output, h.size, h.block⟩

/-- A region that draws its order, walked once in the text's order over all worlds that are below B as w0 was. -/
theorem region_below {P : Program} {id : Nat} {Q : Exit → Act → World → Prop} {a : Act} {w : World} {l : List Oper} (B : Nat) (w0 : World) (hb : Below B w0 w)
    (hm : P.follows .mixedOrders = true) (hB : Region.lexB .any l.toArray = true)
    (h : wpQuiet P l.toArray (fun w' => ∃ x : SubW B w0, w' = x.at_) (fun a' => ∀ w', (∃ x : SubW B w0, w' = x.at_) → Q .normal a' w') l a) : (Code.region id l.toArray true).wp P Q a w :=
  wp_region_quiet (C := fun w' => ∃ x : SubW B w0, w' = x.at_) hm hB ⟨⟨_, below_drewN hb 1⟩, rfl⟩ (by simpa using h)

/-- A callee's contract, met in such a world. -/
theorem calls_sub {P : Program} {f : FuncId} {args : Array Value} {B : Nat} {w0 : World} {x : SubW B w0} {v : Value} (hB : B ≤ w0.heap.size)
    (h : Calls P f args x.at_ fun e w' => e = .returned v ∧ Below x.at_.heap.size x.at_ w') : Calls P f args x.at_ fun e w'' => e = .returned v ∧ ∃ y : SubW B w0, w'' = y.at_ :=
  h.mono fun _ _ ⟨he, hb⟩ => ⟨he, ⟨_, x.ok_.trans (hb.mono (Nat.le_trans hB x.ok_.size))⟩, rfl⟩

/-- A whole array is read in a region that draws. -/
theorem quiet_load_row {P : Program} {o : Oper} {a : Act} {B : Nat} {w0 : World} {K : Act → Prop} (ty : TypeId) (x : Operand) (ho : o.op = .load ty x)
    (g : Nat) (hx : a.eval x = .pointer (some ⟨g, 0, none⟩)) (t : TypeId) (cs : Array Value) (fr : Nat × Nat) (d : TypeDesc) (hg : ∀ y : SubW B w0, y.at_.heap[g]? = some (.cells cs t fr))
    (hu : P.underlying ty = some d) (hd : (match d with | .struct _ | .array _ _ => true | _ => false) = true) (hi : (P.info? ty).map (·.size) = some cs.size)
    (h : K (a.put o.dst (.agg cs))) : o.quiet P a (fun w' => ∃ x : SubW B w0, w' = x.at_) K := by
  refine ⟨.agg cs, ?_, h⟩
  rintro w ⟨y, rfl⟩
  unfold Oper.quietAt execOp
  simp only [ho, hx, Instr.loadAt, Instr.sureAddr, Sem.run_bind, Sem.run_pure, Result.andThen_ok, run_loadVar_row y.at_ g t ty cs fr d (hg y) hu hd hi]
  exact ⟨rfl, rfl⟩

/-- The slice value over A reads as these bytes. -/
def BytesAt (w : World) (A : Option Addr) (xs : List UInt8) : Prop :=
  xs ≠ [] → ∃ b off, A = some ⟨b, off, none⟩ ∧ ∀ k (h : k < xs.length), w.cell? ⟨b, off + k, none⟩ = some (.int .u8 (xs[k].toNat : Int))

theorem BytesAt.below {w w' : World} {A : Option Addr} {xs : List UInt8} (h : BytesAt w A xs) (hb : Below w.heap.size w w') : BytesAt w' A xs := fun hx => by
  obtain ⟨b, off, ha, hc⟩ := h hx
  exact ⟨b, off, ha, fun k hk => (hb.cell (p := ⟨b, off + k, none⟩) (World.block_lt_of_cell? w _ (hc k hk))).trans (hc k hk)⟩

end Go.Proofs.Ytgkddhncfaeidaa

namespace Go.Proofs.Ytgkddhncfaeidaa
open Go.RowKit

/-- A byte as a value. -/
def bv (c : UInt8) : Value := .int .u8 (c.toNat : Int)

theorem bv_one (xs : List UInt8) : ∀ u ∈ xs.map bv, u.oneCell' = true := by
  intro u hu
  obtain ⟨c, _, rfl⟩ := List.mem_map.1 hu
  rfl

/-- The row g, of room cap, from block base on, begins with these bytes and is owned. -/
def OwnB (w : World) (base g cap : Nat) (E : TypeId) (xs : List UInt8) : Prop :=
  w.ownsRow base E 1 (.slice (some ⟨g, 0, none⟩) xs.length cap) xs.length (xs.map bv)

section
variable {w w' : World} {base g cap : Nat} {E : TypeId} {xs ys : List UInt8}

theorem OwnB.parts (h : OwnB w base g cap E xs) : base ≤ g ∧ xs.length ≤ cap ∧ cap ≤ maxLen ∧ ∃ cur : Array Value, w.heap[g]? = some (.cells cur E (0, 0)) ∧ cur.size = cap ∧ cur.toList.take xs.length = xs.map bv := by
  rcases h.2 with ⟨h0, _⟩ | ⟨g', cap', cur, hv, hb, hh, hn, hm, hs, ht⟩
  · cases h0
  · simp at hv
    obtain ⟨rfl, rfl⟩ := hv
    exact ⟨hb, hn, hm, cur, hh, by simpa using hs, by simpa using ht⟩
theorem OwnB.lt (h : OwnB w base g cap E xs) : g < w.heap.size := by
  obtain ⟨_, _, _, cur, hh, _⟩ := h.parts
  exact (Array.getElem?_eq_some_iff.1 hh).1
theorem OwnB.bytes (h : OwnB w base g cap E xs) : BytesAt w (some ⟨g, 0, none⟩) xs := fun _ =>
  ⟨g, 0, rfl, fun k hk => by
    have := World.ownsRow.cellAt (g := g) h k (by simpa using hk)
    rw [Nat.zero_add, this]
    simp [hk, bv]⟩
theorem OwnB.keep (h : OwnB w base g cap E xs) (e : w'.heap[g]? = w.heap[g]?) : OwnB w' base g cap E xs := by
  obtain ⟨hb, hn, hm, cur, hh, hs, ht⟩ := h.parts
  exact ⟨by simp, .inr ⟨g, cap, cur, rfl, hb, e.trans hh, hn, hm, by simpa using hs, by simpa using ht⟩⟩
theorem OwnB.below {B : Nat} (h : OwnB w base g cap E xs) (hb : Below B w w') (hg : g < B) : OwnB w' base g cap E xs := h.keep (hb.block g hg)
theorem OwnB.alloc (h : OwnB w base g cap E xs) (o : Obj) : OwnB (w.alloc o) base g cap E xs := h.keep (Below.heap_alloc w o g h.lt)
theorem OwnB.new (w : World) (E : TypeId) (xs : List UInt8) (base : Nat) (hb : base ≤ w.heap.size) (hl : xs.length ≤ maxLen) : OwnB (w.alloc (.cells (xs.map bv).toArray E)) base w.heap.size xs.length E xs :=
  ⟨by simp, .inr ⟨w.heap.size, xs.length, _, rfl, hb, heap_alloc_new w _, Nat.le_refl _, hl, by simp, by simp [List.take_of_length_le]⟩⟩

theorem OwnB.cellAt (h : OwnB w base g cap E xs) (j : Nat) (hj : j < xs.length) : w.cell? ⟨g, j, none⟩ = some (.int .u8 ((xs.getD j 0).toNat : Int)) := by
  have := World.ownsRow.cellAt (g := g) h j (by simpa using hj)
  rw [this]
  simp [hj, bv]
theorem OwnB.frozenAt (h : OwnB w base g cap E xs) (j : Nat) : w.frozen? ⟨g, j, none⟩ = false := World.ownsRow.frozenAt (g := g) h j
theorem OwnB.stored (h : OwnB w base g cap E xs) (j : Nat) (_hj : j < xs.length) (c : UInt8) : OwnB (w.setCell ⟨g, j, none⟩ (.int .u8 (c.toNat : Int))) base g cap E (xs.set j c) := by
  obtain ⟨hb, hn, hm, cur, hh, hs, ht⟩ := h.parts
  have hh2 := heap_setCell_same w g j cur E (.int .u8 (c.toNat : Int)) hh
  refine ⟨by simp, .inr ⟨g, cap, _, by simp, hb, hh2, by simpa using hn, hm, by simpa using hs, ?_⟩⟩
  simp only [List.length_set, Nat.mul_one, Array.toList_setIfInBounds]
  rw [List.take_set, ht, List.map_set]
  rfl
theorem byteV_cells {A : Option Addr} (h : BytesAt w A ys) (hy : ys ≠ []) : ∃ ad, A = some ad ∧ ∀ j u, (ys.map bv)[j]? = some u → w.cell? (ad.add j) = some u := by
  obtain ⟨b, off, ha, hc⟩ := h hy
  refine ⟨⟨b, off, none⟩, ha, fun j u hu => ?_⟩
  have hj : j < ys.length := by
    rcases Nat.lt_or_ge j ys.length with h | h
    · exact h
    · simp [List.getElem?_eq_none h] at hu
  have hadd : (⟨b, off, none⟩ : Addr).add j = ⟨b, off + j, none⟩ := by unfold Addr.add; split <;> simp_all
  rw [hadd, hc j hj]
  simpa [List.getElem?_eq_getElem hj, bv] using hu

theorem _root_.Go.Proofs.Ytgkddhncfaeidaa.BytesAt.take {A : Option Addr} (h : BytesAt w A xs) (n : Nat) : BytesAt w A (xs.take n) := fun hne => by
  obtain ⟨b, off, ha, hc⟩ := h (by intro h0; subst h0; simp at hne)
  refine ⟨b, off, ha, fun k hk => ?_⟩
  have hk' : k < xs.length := by simp at hk; omega
  rw [hc k hk']
  simp

/-- Behind a cut at k: nothing is left, or the row from there on. -/
theorem _root_.Go.Proofs.Ytgkddhncfaeidaa.BytesAt.cut {A : Option Addr} (h : BytesAt w A xs) (k : Nat) (A' : Option Addr) (hA : k < xs.length → A' = A.map (·.add k)) : BytesAt w A' (xs.drop k) := fun hne => by
  have hk0 : k < xs.length := by
    rcases Nat.lt_or_ge k xs.length with h | h
    · exact h
    · exact absurd (List.drop_eq_nil_of_le h) hne
  obtain ⟨b, off, ha, hc⟩ := h (by intro h0; subst h0; simp at hk0)
  have hadd : (⟨b, off, none⟩ : Addr).add k = ⟨b, off + k, none⟩ := by unfold Addr.add; split <;> simp_all
  refine ⟨b, off + k, by rw [hA hk0, ha, Option.map_some, hadd], fun i hi => ?_⟩
  have hi' : k + i < xs.length := by simp at hi; omega
  rw [Nat.add_assoc, hc (k + i) hi']
  simp

variable {P : Program}

/-- Bytes as a text. -/
theorem run_text (src dst : TypeId) (hs : P.underlying src = some (.slice E)) (he : P.underlying E = some (.int .u8)) (hd : P.underlying dst = some .string) (A : Option Addr) (c : Nat) (hA : BytesAt w A xs) :
    (convert src dst (.slice A xs.length c)).run P w = .ok (.string ⟨xs.toArray⟩) w := by
  by_cases hx : xs = []
  · subst hx
    cases A with
    | none => exact run_convert_bytes_nil (P := P) w src E hs he 0 c dst hd
    | some ad =>
      rw [List.length_nil, run_convert_bytes_string w src dst E _ 0 c hs he hd]
      simp [Conv.bytesToString, loadCells, loadCellsFrom]
      rfl
  · obtain ⟨b, off, rfl, hc⟩ := hA hx
    have := run_convert_bytes_arg (P := P) w src E hs he b off xs.length c (xs.map fun u => (u.toNat : Int)) (by simp) (fun i hi => by
      rw [hc i hi]; simp [List.getElem?_eq_getElem hi]) dst hd
    rw [this]
    unfold strOfNums
    rw [List.map_map]
    congr 3
    have : (fun n : Int => UInt8.ofNat n.toNat) ∘ (fun u : UInt8 => (u.toNat : Int)) = id := by
      funext u
      simp
    rw [this, List.map_id]
end
end Go.Proofs.Ytgkddhncfaeidaa

namespace Go.Proofs.Ytgkddhncfaeidaa
open Go.RowKit
set_option linter.unusedVariables false

/-- The cells of a map. -/
def mapC (p : Int) (U : List Bool) : Array Value := (Value.int .i64 p :: U.map Value.bool).toArray
theorem size_mapC {p : Int} {U : List Bool} (h : U.length = 512) : (mapC p U).size = 513 := by simp [mapC, h]
theorem one_mapC (p : Int) (U : List Bool) : (mapC p U).all (·.oneCell') = true := by
  simp [mapC, Value.oneCell']
theorem mapC_0 (p : Int) (U : List Bool) : (mapC p U)[0]? = some (.int .i64 p) := rfl
theorem mapC_s (p : Int) (U : List Bool) (i : Nat) (h : i < U.length) : (mapC p U)[1 + i]? = some (.bool (U.getD i false)) := by
  unfold mapC
  rw [List.getElem?_toArray, Nat.add_comm, List.getElem?_cons_succ, List.getElem?_map, List.getElem?_eq_getElem h, List.getD_eq_getElem?_getD, List.getElem?_eq_getElem h]
  rfl
theorem mapC_set (p : Int) (U : List Bool) (i : Nat) (b : Bool) : (mapC p U).setIfInBounds (1 + i) (.bool b) = mapC p (U.set i b) := by
  unfold mapC
  rw [List.setIfInBounds_toArray, Nat.add_comm, List.set_cons_succ, List.map_set]

/-- So many pages from a on are in use, or are not. -/
def markN (U : List Bool) (a : Nat) (b : Bool) : Nat → List Bool
  | 0 => U
  | k + 1 => (markN U a b k).set (a + k) b
theorem length_markN (U : List Bool) (a : Nat) (b : Bool) : ∀ k, (markN U a b k).length = U.length
  | 0 => rfl
  | k + 1 => by simp [markN, length_markN U a b k]
theorem getD_set' (U : List Bool) (i j : Nat) (b : Bool) (h : i < U.length) : (U.set i b).getD j false = if j = i then b else U.getD j false := by
  rw [List.getD_eq_getElem?_getD, List.getD_eq_getElem?_getD, List.getElem?_set]
  by_cases hj : i = j
  · subst hj
    simp [h]
  · simp [hj, Ne.symm hj]
theorem getD_markN (U : List Bool) (a : Nat) (b : Bool) (j : Nat) : ∀ k, a + k ≤ U.length → (markN U a b k).getD j false = if a ≤ j ∧ j < a + k then b else U.getD j false
  | 0, _ => by rw [if_neg (by omega)]; rfl
  | k + 1, h => by
    show ((markN U a b k).set (a + k) b).getD j false = _
    rw [getD_set' _ _ _ _ (by rw [length_markN]; omega), getD_markN U a b j k (by omega)]
    by_cases h1 : j = a + k
    · rw [if_pos h1, if_pos (by omega)]
    · rw [if_neg h1]
      by_cases h2 : a ≤ j ∧ j < a + k
      · rw [if_pos h2, if_pos (by omega)]
      · rw [if_neg h2, if_neg (by omega)]

/-- Is page j of a map as it may be? -/
def okAt (p : Int) (U : List Bool) (j : Nat) : Bool := !((decide (j < 2) && !(U.getD j false)) || (decide (p ≤ (j : Int)) && U.getD j false))
/-- May a map be? -/
def okM (p : Int) (U : List Bool) : Prop := 8 ≤ p ∧ p ≤ 512 ∧ ∀ j, j < 512 → okAt p U j = true
instance (p : Int) (U : List Bool) : Decidable (okM p U) := by unfold okM; infer_instance

/-- Are n pages from a on free in both, of p pages? -/
def fits (p : Nat) (U V : List Bool) (n a : Nat) : Prop := a + n ≤ p ∧ ∀ j, j < n → U.getD (a + j) false = false ∧ V.getD (a + j) false = false

/-- A map's block. -/
def MapAt (w : World) (g : Nat) (T : TypeId) (p : Int) (U : List Bool) : Prop := w.heap[g]? = some (.cells (mapC p U) T (0, 0))
theorem MapAt.c0 {w : World} {g : Nat} {T : TypeId} {p : Int} {U : List Bool} (h : MapAt w g T p U) : w.cell? ⟨g, 0, none⟩ = some (.int .i64 p) :=
  (cell_of_row w g 0 _ T _ h).trans (mapC_0 p U)
theorem MapAt.cs {w : World} {g : Nat} {T : TypeId} {p : Int} {U : List Bool} (h : MapAt w g T p U) (i : Nat) (hi : i < U.length) : w.cell? ⟨g, 1 + i, none⟩ = some (.bool (U.getD i false)) :=
  (cell_of_row w g (1 + i) _ T _ h).trans (mapC_s p U i hi)
theorem MapAt.fr {w : World} {g : Nat} {T : TypeId} {p : Int} {U : List Bool} (h : MapAt w g T p U) (i : Nat) : w.frozen? ⟨g, i, none⟩ = false := by
  unfold MapAt at h
  simp [World.frozen?, h]
theorem MapAt.set {w : World} {g : Nat} {T : TypeId} {p : Int} {U : List Bool} (h : MapAt w g T p U) (i : Nat) (b : Bool) : MapAt (w.setCell ⟨g, 1 + i, none⟩ (.bool b)) g T p (U.set i b) := by
  have := heap_setCell_same w g (1 + i) _ T (.bool b) h
  rw [mapC_set] at this
  exact this
theorem MapAt.below {w w' : World} {g B : Nat} {T : TypeId} {p : Int} {U : List Bool} (h : MapAt w g T p U) (hb : Below B w w') (hg : g < B) : MapAt w' g T p U := (hb.block g hg).trans h
theorem MapAt.lt {w : World} {g : Nat} {T : TypeId} {p : Int} {U : List Bool} (h : MapAt w g T p U) : g < w.heap.size := (Array.getElem?_eq_some_iff.1 h).1
theorem MapAt.alloc {w : World} {g : Nat} {T : TypeId} {p : Int} {U : List Bool} (h : MapAt w g T p U) (o : Obj) : MapAt (w.alloc o) g T p U := (Below.heap_alloc w o g h.lt).trans h
theorem MapAt.new (w : World) (T : TypeId) (p : Int) (U : List Bool) : MapAt (w.alloc (.cells (mapC p U) T)) w.heap.size T p U := heap_alloc_new w _
theorem MapAt.range {w : World} {g : Nat} {T : TypeId} {p : Int} {U : List Bool} (h : MapAt w g T p U) : w.rangeAt g 1 (U.map Value.bool) := by
  intro j x hx
  have hj : j < U.length := by
    rcases Nat.lt_or_ge j U.length with h1 | h1
    · exact h1
    · rw [List.getElem?_eq_none (by simpa using h1)] at hx; cases hx
  have := h.cs j hj
  rw [List.getElem?_map, List.getElem?_eq_getElem hj] at hx
  rw [List.getD_eq_getElem?_getD, List.getElem?_eq_getElem hj] at this
  rw [this]
  simpa using hx
end Go.Proofs.Ytgkddhncfaeidaa

namespace Go.Proofs.Ytgkddhncfaeidaa
open Go.RowKit
section
variable {P : Program} {w w' : World} {E : TypeId}

theorem grown_below (h : w.grownBy w' none) : Below w.heap.size w w' := ⟨h.os, h.tape, h.output, h.size, fun k hk => h.block k hk (by simp)⟩
theorem below_grown {B : Nat} {w0 : World} (hB : B ≤ w0.heap.size) (hb : Below B w0 w) (h : w.grownBy w' none) : Below B w0 w' :=
  hb.trans ((grown_below h).mono (Nat.le_trans hB hb.size))

theorem below_alloc {B : Nat} {w0 : World} (hB : B ≤ w0.heap.size) (hb : Below B w0 w) (o : Obj) : Below B w0 (w.alloc o) := hb.alloc (Nat.le_trans hB hb.size) o

/-- A block of four cells, by its cells. -/
theorem four_cells {g : Nat} {a b c d : Value} {t : TypeId} (h : w.heap[g]? = some (.cells #[a, b, c, d] t (0, 0))) :
    w.cell? ⟨g, 0, none⟩ = some a ∧ w.cell? ⟨g, 1, none⟩ = some b ∧ w.cell? ⟨g, 2, none⟩ = some c ∧ w.cell? ⟨g, 3, none⟩ = some d ∧
    w.frozen? ⟨g, 0, none⟩ = false ∧ w.frozen? ⟨g, 1, none⟩ = false ∧ w.frozen? ⟨g, 2, none⟩ = false ∧ w.frozen? ⟨g, 3, none⟩ = false := by
  simp [World.cell?, World.frozen?, h]

theorem set_four {g : Nat} {a b c d : Value} {t : TypeId} (h : w.heap[g]? = some (.cells #[a, b, c, d] t (0, 0))) (a' b' c' d' : Value) :
    ((((w.setCell ⟨g, 0, none⟩ a').setCell ⟨g, 1, none⟩ b').setCell ⟨g, 2, none⟩ c').setCell ⟨g, 3, none⟩ d').heap[g]? = some (.cells #[a', b', c', d'] t (0, 0)) := by
  have h1 := heap_setCell_same w g 0 _ t a' h
  have h2 := heap_setCell_same _ g 1 _ t b' h1
  have h3 := heap_setCell_same _ g 2 _ t c' h2
  have h4 := heap_setCell_same _ g 3 _ t d' h3
  rw [h4]
  rfl

theorem below_set4 {B g : Nat} {w0 : World} (hb : Below B w0 w) (hg : B ≤ g) (a' b' c' d' : Value) :
    Below B w0 ((((w.setCell ⟨g, 0, none⟩ a').setCell ⟨g, 1, none⟩ b').setCell ⟨g, 2, none⟩ c').setCell ⟨g, 3, none⟩ d') :=
  (((hb.setCell hg a').setCell hg b').setCell hg c').setCell hg d'

theorem bytes_set4 {g : Nat} {A : Option Addr} {ys : List UInt8} (h : BytesAt w A ys) (hg : ∀ a, A = some a → g < a.block) (a' b' c' d' : Value) :
    BytesAt ((((w.setCell ⟨g, 0, none⟩ a').setCell ⟨g, 1, none⟩ b').setCell ⟨g, 2, none⟩ c').setCell ⟨g, 3, none⟩ d') A ys := fun hne => by
  obtain ⟨b, o, rfl, hc⟩ := h hne
  have hb : b ≠ g := by have := hg _ rfl; simp at this; omega
  refine ⟨b, o, rfl, fun k hk => ?_⟩
  rw [← hc k hk]
  refine World.cell?_of_block ?_
  rw [heap_setCell_other _ _ _ _ hb, heap_setCell_other _ _ _ _ hb, heap_setCell_other _ _ _ _ hb, heap_setCell_other _ _ _ _ hb]

theorem bytes_setRow {g : Nat} {A : Option Addr} {ys : List UInt8} (h : BytesAt w A ys) (hg : ∀ a, A = some a → g < a.block) (cs : Array Value) : BytesAt (w.setRow g cs) A ys := fun hne => by
  obtain ⟨b, o, rfl, hc⟩ := h hne
  have hb : b ≠ g := by have := hg _ rfl; simp at this; omega
  refine ⟨b, o, rfl, fun k hk => ?_⟩
  rw [← hc k hk]
  exact cell_setRow_other _ _ _ _ hb

section
variable {B : Nat} {w0 : World} {a : Addr} {v : Value}
theorem kept_new (ha : a.block < B) (hc : w0.cell? a = some v) (hb : Below B w0 w) : Below B w0 w ∧ w.cell? a = some v := ⟨hb, (World.cell?_of_block (hb.block _ ha)).trans hc⟩
end
end
end Go.Proofs.Ytgkddhncfaeidaa

namespace Go.Proofs.Ytgkddhncfaeidaa
open Go.RowKit

/-- The slice v, from block base on, is these bytes and is owned. -/
def OwnS (w : World) (base : Nat) (v : Value) (E : TypeId) (xs : List UInt8) : Prop := w.ownsRow base E 1 v xs.length (xs.map bv)

section
variable {w w' : World} {base : Nat} {v : Value} {E : TypeId} {xs ys : List UInt8}

theorem OwnS.nil (w : World) (base : Nat) (E : TypeId) : OwnS w base (.slice none 0 0) E [] := World.ownsRow_nil w base E 1

theorem OwnB.ownS {g cap : Nat} (h : OwnB w base g cap E xs) : OwnS w base (.slice (some ⟨g, 0, none⟩) xs.length cap) E xs := h

theorem OwnS.new (w : World) (E : TypeId) (xs : List UInt8) (base : Nat) (hb : base ≤ w.heap.size) (hl : xs.length ≤ maxLen) : OwnS (w.alloc (.cells (xs.map bv).toArray E)) base (.slice (some ⟨w.heap.size, 0, none⟩) xs.length xs.length) E xs :=
  OwnB.new w E xs base hb hl

theorem OwnS.cases (h : OwnS w base v E xs) : (v = .slice none 0 0 ∧ xs = []) ∨ ∃ g cap, v = .slice (some ⟨g, 0, none⟩) xs.length cap ∧ OwnB w base g cap E xs := by
  rcases h.2 with ⟨h0, h1⟩ | ⟨g', cap', cur, hv, hb, hh, hn, hm, hs, ht⟩
  · exact .inl ⟨h0, List.eq_nil_of_length_eq_zero h1⟩
  · refine .inr ⟨g', cap', hv, ?_⟩
    unfold OwnB
    rw [← hv]
    exact h

theorem OwnS.slice (h : OwnS w base v E xs) : ∃ A c, v = .slice A xs.length c ∧ BytesAt w A xs ∧ xs.length ≤ c ∧ c ≤ maxLen ∧ (∀ a, A = some a → a.off = 0 ∧ a.spot = none) := by
  rcases h.cases with ⟨rfl, rfl⟩ | ⟨g, cap, rfl, ho⟩
  · exact ⟨none, 0, rfl, fun h => absurd rfl h, Nat.le_refl _, Nat.zero_le _, fun a h => by cases h⟩
  · obtain ⟨_, h1, h2, _⟩ := ho.parts
    exact ⟨_, cap, rfl, ho.bytes, h1, h2, fun a h => by cases h; exact ⟨rfl, rfl⟩⟩

theorem OwnS.bytes {A : Option Addr} {n c : Nat} (h : OwnS w base (.slice A n c) E xs) : BytesAt w A xs := by
  obtain ⟨A2, c2, he, hby, _⟩ := h.slice
  injection he with h1
  rw [h1]
  exact hby
theorem OwnS.caps {A : Option Addr} {n c : Nat} (h : OwnS w base (.slice A n c) E xs) : xs.length = n ∧ n ≤ c ∧ c ≤ maxLen ∧ (A = none → n = 0 ∧ c = 0) := by
  rcases h.cases with ⟨h1, rfl⟩ | ⟨g, cap, h1, ho⟩
  · injection h1 with h1 h2 h3
    subst h1 h2 h3
    exact ⟨rfl, Nat.le_refl _, Nat.zero_le _, fun _ => ⟨rfl, rfl⟩⟩
  · injection h1 with h1 h2 h3
    subst h1 h2 h3
    exact ⟨rfl, ho.parts.2.1, ho.parts.2.2.1, fun h => by cases h⟩

theorem OwnS.block (h : OwnS w base v E xs) : ∀ g, v.ownBlock = some g → base ≤ g ∧ g < w.heap.size := by
  intro g hg
  rcases h.cases with ⟨rfl, rfl⟩ | ⟨g', cap, rfl, ho⟩
  · simp [Value.ownBlock] at hg
  · simp [Value.ownBlock] at hg
    subst hg
    exact ⟨ho.parts.1, ho.lt⟩

theorem OwnS.keep (h : OwnS w base v E xs) (e : ∀ g, v.ownBlock = some g → w'.heap[g]? = w.heap[g]?) : OwnS w' base v E xs := by
  rcases h.cases with ⟨rfl, rfl⟩ | ⟨g', cap, rfl, ho⟩
  · exact OwnS.nil w' base E
  · exact (ho.keep (e g' (by simp [Value.ownBlock]))).ownS
theorem OwnS.below (h : OwnS w base v E xs) (hb : Below w.heap.size w w') : OwnS w' base v E xs := h.keep fun g hg => hb.block g (h.block g hg).2
theorem OwnS.alloc (h : OwnS w base v E xs) (o : Obj) : OwnS (w.alloc o) base v E xs := h.keep fun g hg => Below.heap_alloc w o g (h.block g hg).2
theorem OwnS.mono {base' : Nat} (h : OwnS w base v E xs) (hb : base' ≤ base) : OwnS w base' v E xs := by
  rcases h.cases with ⟨rfl, rfl⟩ | ⟨g', cap, rfl, ho⟩
  · exact OwnS.nil w base' E
  · obtain ⟨h1, h2, h3, cur, h4, h5, h6⟩ := ho.parts
    exact ⟨by simp, .inr ⟨g', cap, cur, rfl, Nat.le_trans hb h1, h4, h2, h3, by simpa using h5, by simpa using h6⟩⟩
theorem OwnS.belowGrown (h : OwnS w base v E xs) {w0 : World} {B : Nat} (hB : B ≤ base) (hw : B ≤ w.heap.size) (hb : Below B w0 w) (hg : w.grownBy w' v.ownBlock) : Below B w0 w' :=
  hb.grown hg hw (fun k hk => Nat.le_trans hB (h.block k hk).1)

theorem bytesAt_one (w : World) (z : Int) (c : UInt8) (t : TypeId) (hz : z = (c.toNat : Int)) : BytesAt (w.alloc (.cells #[.int .u8 z] t)) (some ⟨w.heap.size, 0, none⟩) [c] := fun _ =>
  ⟨w.heap.size, 0, rfl, fun k hk => by
    have : k = 0 := by simpa using hk
    subst this
    rw [World.cell?_alloc_new, hz]
    rfl⟩

variable {P : Program}
theorem run_append_s (t ty : TypeId) (ht : P.underlying t = some (.slice E)) (hi : (P.info? E).map (fun i => (i.zero, i.size, i.bytes)) = some (some (.int .u8 0), 1, 1))
    (hown : OwnS w base v E xs) (A : Option Addr) (c n : Nat) (hn : ys.length = n) (hA : BytesAt w A ys) (hl : xs.length + n ≤ 140737488355328) (hbase : base ≤ w.heap.size) :
    ∃ A' c' w', (Builtin.append_ #[t, t] ty #[v, .slice A n c]).run P w = .ok (.slice A' (xs ++ ys).length c') w' ∧
      OwnS w' base (.slice A' (xs ++ ys).length c') E (xs ++ ys) ∧ w.grownBy w' v.ownBlock := by
  obtain ⟨i, hi0, hz, hs, hb⟩ := info_parts hi
  subst hn
  by_cases hy : ys = []
  · subst hy
    rcases hown.cases with ⟨rfl, rfl⟩ | ⟨g, cap, rfl, ho⟩
    · refine ⟨none, 0, w, ?_, OwnS.nil w base E, World.grownBy.refl w _⟩
      cases A <;> simp [Builtin.append_, run_underlying ht, sizeOf, typeInfo, hi0, Builtin.lenOf, Builtin.firstCells, loadCells, loadCellsFrom]
    · obtain ⟨_, hn, _⟩ := ho.parts
      refine ⟨some ⟨g, 0, none⟩, cap, w, ?_, by simpa using hown, World.grownBy.refl w _⟩
      cases A <;> simp [Builtin.append_, run_underlying ht, sizeOf, typeInfo, hi0, Builtin.lenOf, Builtin.firstCells, hn, storeCells, loadCells, loadCellsFrom]
  · obtain ⟨ad, rfl, hc⟩ := byteV_cells hA hy
    obtain ⟨v', w', hr, h2, h3, _, _⟩ := run_append_own_at (P := P) w base t ty E i _ 1 1 ht hi0 hz hs hb rfl (by omega) v xs.length (xs.map bv) hown
      ad ys.length c (ys.map bv) (by simp) hc (bv_one ys) (by unfold maxLen; omega) (by omega) hbase
    have h2' : OwnS w' base v' E (xs ++ ys) := by
      unfold OwnS
      rw [List.length_append, List.map_append]
      exact h2
    obtain ⟨A', c', rfl, _⟩ := h2'.slice
    exact ⟨A', c', w', hr, h2', h3⟩

theorem wpList_append_s {ops : Array Oper} {rest : List Oper} {o : Oper} {a : Act} {Q : Exit → Act → World → Prop} (hgd : o.guard = none) (s x : Operand) (t : TypeId)
    (ho : o.op = .call { callee := .builtin .append, args := #[s, x], argTypes := #[t, t] }) (ht : P.underlying t = some (.slice E)) (hi : (P.info? E).map (fun i => (i.zero, i.size, i.bytes)) = some (some (.int .u8 0), 1, 1))
    (hs : a.eval s = v) (hown : OwnS w base v E xs) (A : Option Addr) (c n : Nat) (ys : List UInt8) (hx : a.eval x = .slice A n c) (hn : ys.length = n) (hA : BytesAt w A ys)
    (hl : xs.length + n ≤ 140737488355328) (hbase : base ≤ w.heap.size)
    (h : ∀ A' c' w', OwnS w' base (.slice A' (xs ++ ys).length c') E (xs ++ ys) → w.grownBy w' v.ownBlock → wpList P ops Q rest (a.put o.dst (.slice A' (xs ++ ys).length c')) w') : wpList P ops Q (o :: rest) a w :=
  wpList_plain hgd fun _ hK => by
    obtain ⟨A', c', w', hr, h2, h3⟩ := run_append_s (P := P) t o.type ht hi hown A c n hn hA hl hbase
    unfold Oper.wp execOp
    simp only [ho, resolve, invoke, builtin, Sem.run_bind, Sem.run_pure, Result.andThen_ok, List.map_toArray, List.map_cons, List.map_nil, hs, hx, hr]
    exact hK _ _ (h A' c' w' h2 h3)

end
end Go.Proofs.Ytgkddhncfaeidaa
