/- Several texts in one: Entries turned into the reference's, and back; what the least key is. Slices of one-cell elements that a call owns, nil among them: append, read, store. No program is named here. Own rows of whatever elements: what frames leave of them; what they read as. append to a row of elements of whatever size, of a row, or of so many noughts to no row. No program is named here. Nodes turned into the reference's, and back. Package node's cursor, and Get at the example. -/
import Derived.Test.YtgkddhncfaeidaaNdC
import Derived.Test.YtgkddhncfaeidaaPart10
import Derived.Test.YtgkddhncfaeidaaPart04
import Derived.Test.YtgkddhncfaeidaaPart00
import Derived.Great.BuildSlice
import Derived.Maps.AppendAt
import Derived.Lib.AppendZeros
import Derived.Test.YtgkddhncfaeidaaPart07
set_option linter.unusedSimpArgs false
set_option linter.unusedVariables false
namespace Go.Proofs.Ytgkddhncfaeidaa
open Go.ChangeShapes Go.WideShapes Go.ChangeAt Go.RowKit CrcM PageM
set_option linter.unusedVariables false

set_option maxRecDepth 100000 in
set_option maxHeartbeats 4000000 in
theorem entry_any (e : EntD) (w : World) :
    Calls Try.prog 36 #[.agg #[.int .i64 e.se, .int .i64 e.st, .int .i64 e.en, .int .i64 e.ad, .int .i64 e.le, .int .i64 e.cn, .int .i64 e.co, .int .u32 e.cr]] w fun e' w' => e' = .returned (.agg #[.int .i64 e.se, .int .i64 e.st, .int .i64 e.en, .int .i64 e.ad, .int .i64 e.le, .int .i64 e.cn, .int .i64 e.co, .int .u32 e.cr]) ∧ Below w.heap.size w w' := by
  go_enter Try.func36, Try.ntmps36
  go_wp2_with fail
  exact bodyPost_ret (v := .agg #[.int .i64 e.se, .int .i64 e.st, .int .i64 e.en, .int .i64 e.ad, .int .i64 e.le, .int .i64 e.cn, .int .i64 e.co, .int .u32 e.cr]) (results_cell_row (p := 2) (ty := 77) rfl _ _ (w.heap.size + 1) 77 #[.int .i64 e.se, .int .i64 e.st, .int .i64 e.en, .int .i64 e.ad, .int .i64 e.le, .int .i64 e.cn, .int .i64 e.co, .int .u32 e.cr] (0, 0) _ rfl (heap_alloc2_new _ _ _) Try.underlying77 rfl (by kernel_rfl)) rfl ⟨rfl, below_two (Below.refl _ _)⟩
set_option maxRecDepth 100000 in
set_option maxHeartbeats 4000000 in
theorem back_any (e : EntD) (w : World) :
    Calls Try.prog 31 #[.agg #[.int .i64 e.se, .int .i64 e.st, .int .i64 e.en, .int .i64 e.ad, .int .i64 e.le, .int .i64 e.cn, .int .i64 e.co, .int .u32 e.cr]] w fun e' w' => e' = .returned (.agg #[.int .i64 e.se, .int .i64 e.st, .int .i64 e.en, .int .i64 e.ad, .int .i64 e.le, .int .i64 e.cn, .int .i64 e.co, .int .u32 e.cr]) ∧ Below w.heap.size w w' := by
  go_enter Try.func31, Try.ntmps31
  go_wp2_with fail
  exact bodyPost_ret (v := .agg #[.int .i64 e.se, .int .i64 e.st, .int .i64 e.en, .int .i64 e.ad, .int .i64 e.le, .int .i64 e.cn, .int .i64 e.co, .int .u32 e.cr]) (results_cell_row (p := 2) (ty := 51) rfl _ _ (w.heap.size + 1) 51 #[.int .i64 e.se, .int .i64 e.st, .int .i64 e.en, .int .i64 e.ad, .int .i64 e.le, .int .i64 e.cn, .int .i64 e.co, .int .u32 e.cr] (0, 0) _ rfl (heap_alloc2_new _ _ _) Try.underlying51 rfl (by kernel_rfl)) rfl ⟨rfl, below_two (Below.refl _ _)⟩
end Go.Proofs.Ytgkddhncfaeidaa

namespace Go.Proofs.Ytgkddhncfaeidaa
open Go.RowKit

/-- The slice value over A reads as these cells. -/
def CellsAt (w : World) (A : Option Addr) (us : List Value) : Prop :=
  us ≠ [] → ∃ b off, A = some ⟨b, off, none⟩ ∧ ∀ k (h : k < us.length), w.cell? ⟨b, off + k, none⟩ = some us[k]

section
variable {w w' : World} {base : Nat} {v : Value} {E : TypeId} {us vs : List Value}

theorem CellsAt.cells {A : Option Addr} (h : CellsAt w A us) (hy : us ≠ []) : ∃ ad, A = some ad ∧ ∀ j u, us[j]? = some u → w.cell? (ad.add j) = some u := by
  obtain ⟨b, off, ha, hc⟩ := h hy
  refine ⟨⟨b, off, none⟩, ha, fun j u hu => ?_⟩
  obtain ⟨hj, e⟩ := List.getElem?_eq_some_iff.1 hu
  have hadd : (⟨b, off, none⟩ : Addr).add j = ⟨b, off + j, none⟩ := by unfold Addr.add; split <;> simp_all
  rw [hadd, hc j hj, e]
variable {P : Program}
end
end Go.Proofs.Ytgkddhncfaeidaa

namespace Go.Proofs.Ytgkddhncfaeidaa
open Go.ChangeShapes Go.WideShapes Go.ChangeAt Go.RowKit CrcM PageM
set_option linter.unusedVariables false

section
variable {w w' : World} {base sz n : Nat} {v : Value} {E : TypeId} {us : List Value}
theorem row_form (h : w.ownsRow base E sz v n us) : ∃ A c, v = .slice A n c := by
  rcases h.2 with ⟨rfl, rfl⟩ | ⟨g, cap, cur, rfl, _⟩
  · exact ⟨none, 0, rfl⟩
  · exact ⟨_, _, rfl⟩
theorem row_keep (h : w.ownsRow base E sz v n us) (hk : ∀ k cur, base ≤ k → w.heap[k]? = some (.cells cur E (0, 0)) → w'.heap[k]? = w.heap[k]?) : w'.ownsRow base E sz v n us := by
  refine ⟨h.1, ?_⟩
  rcases h.2 with hn | ⟨g, cap, cur, rfl, hb, hgg, rest⟩
  · exact .inl hn
  · exact .inr ⟨g, cap, cur, rfl, hb, (hk g cur hb hgg).trans hgg, rest⟩
theorem row_below (h : w.ownsRow base E sz v n us) (hb : Below w.heap.size w w') : w'.ownsRow base E sz v n us := row_keep h (fun k cur _ hc => hb.block k (Array.getElem?_eq_some_iff.1 hc).1)
theorem row_cap {A : Option Addr} {c : Nat} (h : w.ownsRow base E sz (.slice A n c) n us) : n ≤ c ∧ c ≤ maxLen := by
  rcases h.2 with ⟨h1, h2⟩ | ⟨g, cap, cur, hv, _, _, h3, h4, _⟩
  · injection h1 with h5 h6 h7
    unfold maxLen
    omega
  · injection hv with h5 h6 h7
    subst h7
    exact ⟨h3, h4⟩
/-- A row of another kind of elements is grown: blocks of other types stay. -/
theorem typed_kept (h : w.ownsRow base E sz v n us) (hg : w.grownBy w' v.ownBlock) {g : Nat} {cs : Array Value} {T : TypeId} (hT : T ≠ E) (h0 : w.heap[g]? = some (.cells cs T (0, 0))) : w'.heap[g]? = w.heap[g]? :=
  hg.block g (Array.getElem?_eq_some_iff.1 h0).1 (fun e => by
    rcases h.2 with ⟨hv, _⟩ | ⟨g', cap, cur, hv, _, hh, _⟩
    · rw [hv] at e; cases e
    · rw [hv] at e
      injection e with e
      subst e
      rw [hh] at h0
      injection h0 with h0
      injection h0 with _ h0
      exact hT h0.symm)
theorem row_cells {A : Option Addr} {c : Nat} (h : w.ownsRow base E sz (.slice A n c) n us) (hne : us ≠ []) : ∃ g, A = some ⟨g, 0, none⟩ ∧ base ≤ g ∧ ∀ j u, us[j]? = some u → w.cell? ⟨g, j, none⟩ = some u := by
  have hl := h.1
  rcases h.2 with ⟨h1, h2⟩ | ⟨g, cap, cur, hv, hb, hh, _⟩
  · exfalso
    subst h2
    rw [Nat.zero_mul] at hl
    exact hne (List.eq_nil_of_length_eq_zero hl)
  · injection hv with h5 h6 h7
    refine ⟨g, h5, hb, fun j u hj => ?_⟩
    subst h5
    have := h.cells (g := g) rfl j u hj
    rw [Addr.add_mid] at this
    simpa using this
theorem flat_get {α : Type} {f : α → List Value} {m : Nat} (hf : ∀ x, (f x).length = m) : ∀ (l : List α) (i : Nat) (x : α) (j : Nat) (u : Value), l[i]? = some x → (f x)[j]? = some u → (l.flatMap f)[i * m + j]? = some u
  | [], i, x, j, u, h, _ => by simp at h
  | a :: t, 0, x, j, u, h, hu => by
    simp at h
    subst h
    have hj : j < (f a).length := (List.getElem?_eq_some_iff.1 hu).1
    simp only [List.flatMap_cons, Nat.zero_mul, Nat.zero_add]
    rw [List.getElem?_append_left hj, hu]
  | a :: t, i + 1, x, j, u, h, hu => by
    have h' : t[i]? = some x := by simpa using h
    simp only [List.flatMap_cons]
    rw [List.getElem?_append_right (by rw [hf, Nat.succ_mul]; omega), hf, show (i + 1) * m + j - m = i * m + j by rw [Nat.succ_mul]; omega]
    exact flat_get hf t i x j u h' hu
theorem flat_takeV {α : Type} {f : α → List Value} {l : List α} {k : Nat} {x : α} (h : l[k]? = some x) : (l.take (k + 1)).flatMap f = (l.take k).flatMap f ++ f x := by
  rw [List.take_add_one, h]
  simp
theorem EnAt.of_row {es : List EntD} {A : Option Addr} {c : Nat} (h : w.ownsRow base E 8 (.slice A n c) n (es.flatMap enC)) : EnAt w A es := fun hne => by
  obtain ⟨g, rfl, _, hc⟩ := row_cells h (by intro e; obtain ⟨a, t, rfl⟩ := List.exists_cons_of_ne_nil hne; simp [enC] at e)
  refine ⟨g, 0, rfl, fun i e hi => ?_⟩
  have q := fun j u hu => hc _ u (flat_get (f := enC) (m := 8) (fun _ => rfl) es i e j u hi hu)
  simp only [Nat.zero_add]
  exact ⟨q 0 _ rfl, q 1 _ rfl, q 2 _ rfl, q 3 _ rfl, q 4 _ rfl, q 5 _ rfl, q 6 _ rfl, q 7 _ rfl⟩
theorem KyAt.of_row {ks : List KeyD} {A : Option Addr} {c : Nat} (h : w.ownsRow base E 2 (.slice A n c) n (ks.flatMap kyC)) : KyAt w A ks := fun hne => by
  obtain ⟨g, rfl, _, hc⟩ := row_cells h (by intro e; obtain ⟨a, t, rfl⟩ := List.exists_cons_of_ne_nil hne; simp [kyC] at e)
  refine ⟨g, 0, rfl, fun i e hi => ?_⟩
  have q := fun j u hu => hc _ u (flat_get (f := kyC) (m := 2) (fun _ => rfl) ks i e j u hi hu)
  simp only [Nat.zero_add]
  exact ⟨q 0 _ rfl, q 1 _ rfl⟩
def kdC (z : Int) : Value := .int .i64 z
theorem KdAt.of_row {ds : List Int} {A : Option Addr} {c : Nat} (h : w.ownsRow base E 1 (.slice A n c) n (ds.map kdC)) : KdAt w A ds := fun hne => by
  obtain ⟨g, rfl, _, hc⟩ := row_cells h (by intro e; exact hne (List.map_eq_nil_iff.1 e))
  refine ⟨g, 0, rfl, fun i z hi => ?_⟩
  have := hc i (kdC z) (by rw [List.getElem?_map, hi]; rfl)
  simpa [kdC] using this
end
theorem fill_eight (C cells : Array Value) (hC : C.size = 8) (hn : cells.size = 8) : Instr.fill (fun i => some (i * 8, 8)) cells [(0, .agg C)] = some C := by
  have := Great.fill_whole (s := 8) (by omega) [.agg C] cells (fun v hv => by simp at hv; subst hv; exact hC) (by simp [hn])
  simpa [Value.cells] using this
theorem fill_twoN (C cells : Array Value) (hC : C.size = 2) (hn : cells.size = 2) : Instr.fill (fun i => some (i * 2, 2)) cells [(0, .agg C)] = some C := by
  have := Great.fill_whole (s := 2) (by omega) [.agg C] cells (fun v hv => by simp at hv; subst hv; exact hC) (by simp [hn])
  simpa [Value.cells] using this
theorem enC_one (e : EntD) : ∀ u ∈ enC e, u.oneCell' = true := by
  intro u hu
  simp [enC] at hu
  rcases hu with rfl | rfl | rfl | rfl | rfl | rfl | rfl | rfl <;> rfl
theorem kyC_one (k : KeyD) : ∀ u ∈ kyC k, u.oneCell' = true := by
  intro u hu
  simp [kyC] at hu
  rcases hu with rfl | rfl <;> rfl

section
variable {w W wr w1 w2 : World} {Tout TE TK TD : TypeId} {g3 : Nat} {lf : Bool} {vE vK vD v' : Value} {kE kK nd : Nat} {es : List EntD} {ks : List KeyD} {ds : List Int}
theorem row_set {base sz n i : Nat} {v u : Value} {E T : TypeId} {us : List Value} {g : Nat} {cs : Array Value} (h : w.ownsRow base E sz v n us) (hg : w.heap[g]? = some (.cells cs T (0, 0))) (hT : E ≠ T) : (w.setCell ⟨g, i, none⟩ u).ownsRow base E sz v n us :=
  row_keep h (fun k cur _ hc => Below.heap_setCell w ⟨g, i, none⟩ u k (fun e => by
    have e' : k = g := e
    subst e'
    rw [hg] at hc
    injection hc with hc
    injection hc with _ hc
    exact hT hc.symm))
theorem kdC_one (ds : List Int) : ∀ u ∈ ds.map kdC, u.oneCell' = true := by
  intro u hu
  simp [kdC] at hu
  obtain ⟨a, _, rfl⟩ := hu
  rfl
theorem row_set4 {base sz n : Nat} {v a b c d : Value} {E T : TypeId} {us : List Value} {g : Nat} {cs : Array Value} (h : w.ownsRow base E sz v n us) (hg : w.heap[g]? = some (.cells cs T (0, 0))) (hT : E ≠ T) :
    ((((w.setCell ⟨g, 0, none⟩ a).setCell ⟨g, 1, none⟩ b).setCell ⟨g, 2, none⟩ c).setCell ⟨g, 3, none⟩ d).ownsRow base E sz v n us := by
  have h1 := row_set (i := 0) (u := a) h hg hT
  have g1 := heap_setCell_same w g 0 cs T a hg
  have h2 := row_set (i := 1) (u := b) h1 g1 hT
  have g2 := heap_setCell_same _ g 1 _ T b g1
  have h3 := row_set (i := 2) (u := c) h2 g2 hT
  have g3 := heap_setCell_same _ g 2 _ T c g2
  exact row_set (i := 3) (u := d) h3 g3 hT
end
end Go.Proofs.Ytgkddhncfaeidaa

namespace Go.Proofs.Ytgkddhncfaeidaa
open Go.RowKit
set_option linter.unusedVariables false
section
variable {P : Program} {w w2 : World} {base sz n : Nat} {E : TypeId} {us vs : List Value}

theorem row_cases {v : Value} (h : w.ownsRow base E sz v n us) : (v = .slice none 0 0 ∧ n = 0 ∧ us = []) ∨ ∃ g cap, v = .slice (some ⟨g, 0, none⟩) n cap ∧ base ≤ g ∧ n ≤ cap ∧ cap ≤ maxLen := by
  have hl := h.1
  rcases h.2 with ⟨h1, h2⟩ | ⟨g, cap, cur, hv, hb, hh, h3, h4, _⟩
  · subst h2
    rw [Nat.zero_mul] at hl
    exact .inl ⟨h1, rfl, List.eq_nil_of_length_eq_zero hl⟩
  · exact .inr ⟨g, cap, hv, hb, h3, h4⟩
theorem run_append_row (t ty : TypeId) (ht : P.underlying t = some (.slice E)) (z : Value) (bytes : Nat) (hi : (P.info? E).map (fun i => (i.zero, i.size, i.bytes)) = some (some z, sz, bytes)) (hz1 : z.cells.size = sz) (hsz : 0 < sz)
    {v : Value} (hown : w.ownsRow base E sz v n us) (A : Option Addr) (c m : Nat) (hm : vs.length = m * sz) (hA : CellsAt w A vs) (h1 : ∀ u ∈ vs, u.oneCell' = true) (hl : (n + m) * bytes ≤ 140737488355328) (h63 : n + m ≤ maxLen) (hbase : base ≤ w.heap.size) :
    ∃ A' c' w', (Builtin.append_ #[t, t] ty #[v, .slice A m c]).run P w = .ok (.slice A' (n + m) c') w' ∧ w'.ownsRow base E sz (.slice A' (n + m) c') (n + m) (us ++ vs) ∧ w.grownBy w' v.ownBlock := by
  obtain ⟨i, hi0, hz, hs, hb⟩ := info_parts hi
  by_cases hy : vs = []
  · subst hy
    have hm0 : m = 0 := by
      have : m * sz = 0 := by simpa using hm.symm
      rcases Nat.mul_eq_zero.1 this with h | h
      · exact h
      · omega
    subst hm0
    rcases row_cases hown with ⟨rfl, rfl, rfl⟩ | ⟨g, cap, rfl, h2, h3, h4⟩
    · refine ⟨none, 0, w, ?_, by simpa using World.ownsRow_nil w base E sz, World.grownBy.refl w _⟩
      cases A <;> simp [Builtin.append_, run_underlying ht, sizeOf, typeInfo, hi0, Builtin.lenOf, Builtin.firstCells, loadCells, loadCellsFrom]
    · refine ⟨some ⟨g, 0, none⟩, cap, w, ?_, by simpa using hown, World.grownBy.refl w _⟩
      cases A <;> simp [Builtin.append_, run_underlying ht, sizeOf, typeInfo, hi0, Builtin.lenOf, Builtin.firstCells, h3, storeCells, loadCells, loadCellsFrom]
  · obtain ⟨ad, rfl, hc⟩ := hA.cells hy
    obtain ⟨v', w', hr, h2, h3, _, _⟩ := run_append_own_at (P := P) w base t ty E i z sz bytes ht hi0 hz hs hb hz1 hsz v n us hown ad m c vs hm hc h1 h63 hl hbase
    rcases row_cases h2 with ⟨_, _, h4⟩ | ⟨g', cap', rfl, _⟩
    · exact absurd (List.append_eq_nil_iff.1 h4).2 hy
    · exact ⟨_, cap', w', hr, h2, h3⟩
theorem wpList_append_row {ops : Array Oper} {rest : List Oper} {o : Oper} {a : Act} {Q : Exit → Act → World → Prop} (hgd : o.guard = none) (s x : Operand) (t : TypeId)
    (ho : o.op = .call { callee := .builtin .append, args := #[s, x], argTypes := #[t, t] }) (ht : P.underlying t = some (.slice E)) (z : Value) (bytes : Nat) (hi : (P.info? E).map (fun i => (i.zero, i.size, i.bytes)) = some (some z, sz, bytes)) (hz1 : z.cells.size = sz) (hsz : 0 < sz)
    (v : Value) (hs : a.eval s = v) (hown : w.ownsRow base E sz v n us) (A : Option Addr) (c m : Nat) (hx : a.eval x = .slice A m c) (hm : vs.length = m * sz) (hA : CellsAt w A vs) (h1 : ∀ u ∈ vs, u.oneCell' = true)
    (hl : (n + m) * bytes ≤ 140737488355328) (h63 : n + m ≤ maxLen) (hbase : base ≤ w.heap.size) (k : Nat) (hk : n + m = k) (zs : List Value) (hzs : us ++ vs = zs)
    (h : ∀ A' c' w', w'.ownsRow base E sz (.slice A' k c') k zs → w.grownBy w' v.ownBlock → wpList P ops Q rest (a.put o.dst (.slice A' k c')) w') : wpList P ops Q (o :: rest) a w :=
  wpList_plain hgd fun _ hK => by
    subst hk hzs
    obtain ⟨A', c', w', hr, h2, h3⟩ := run_append_row (P := P) t o.type ht z bytes hi hz1 hsz hown A c m hm hA h1 hl h63 hbase
    unfold Oper.wp execOp
    simp only [ho, resolve, invoke, builtin, Sem.run_bind, Sem.run_pure, Result.andThen_ok, List.map_toArray, List.map_cons, List.map_nil, hs, hx, hr]
    exact hK _ _ (h A' c' w' h2 h3)
end
end Go.Proofs.Ytgkddhncfaeidaa

namespace Go.Proofs.Ytgkddhncfaeidaa
open Go.ChangeShapes Go.WideShapes Go.ChangeAt Go.RowKit CrcM PageM
set_option linter.unusedVariables false

theorem infoIntN : (Try.prog.info? 3).map (fun i => (i.zero, i.size, i.bytes)) = some (some (.int .i64 0), 1, 8) := by kernel_rfl
theorem infoEnt_to_any : (Try.prog.info? 77).map (fun i => (i.zero, i.size, i.bytes)) = some (some (.agg #[.int .i64 0, .int .i64 0, .int .i64 0, .int .i64 0, .int .i64 0, .int .i64 0, .int .i64 0, .int .u32 0]), 8, 64) := by kernel_rfl
theorem infoKey_to_any : (Try.prog.info? 46).map (fun i => (i.zero, i.size, i.bytes)) = some (some (.agg #[.int .i64 0, .int .i64 0]), 2, 16) := by kernel_rfl
theorem infoEnt_from_any : (Try.prog.info? 51).map (fun i => (i.zero, i.size, i.bytes)) = some (some (.agg #[.int .i64 0, .int .i64 0, .int .i64 0, .int .i64 0, .int .i64 0, .int .i64 0, .int .i64 0, .int .u32 0]), 8, 64) := by kernel_rfl
end Go.Proofs.Ytgkddhncfaeidaa

namespace Go.Proofs.Ytgkddhncfaeidaa
open Go.RowKit CrcM PageM
set_option linter.unusedVariables false

theorem or_u64n (a : Nat) (c : UInt8) (ha : a < 72057594037927936) : bits BinOp.or IntKind.u64 ((a : Int) * 256) (c.toNat : Int) = ((a * 256 + c.toNat : Nat) : Int) := by
  have hc := c.toNat_lt
  have e : bits BinOp.or IntKind.u64 ((a * 256 : Nat) : Int) ((c.toNat : Nat) : Int) = ((a * 256 ||| c.toNat : Nat) : Int) := u64_or_nat _ _ (by omega) (by omega)
  rw [nat_join 8 (a * 256) c.toNat (by omega) (by omega)] at e
  exact e

set_option maxRecDepth 100000 in
theorem high_nd (r g o len cap : Nat) (xs : List UInt8) (w : World) (hr : w.heap[r]? = some (.cells #[.slice (some ⟨g, o, none⟩) len cap] 95 (0, 0))) (hx : BytesAt w (some ⟨g, o, none⟩) xs) (hlen : xs.length = len) (hc : len ≤ cap) (hcm : cap ≤ maxLen) (z : Int) (s : Nat) (hz : z = (s : Int)) (hs : s ≤ len) (hs8 : s ≤ 8) :
    Calls Try.prog 46 #[.pointer (some ⟨r, 0, none⟩), .int .i64 z] w fun e w' => e = .returned (.int .u64 (val (xs.take s))) ∧ ∃ A', w' = w.setCell ⟨r, 0, none⟩ (.slice A' (len - s) (cap - s)) ∧ (s < len → A' = some ⟨g, o + s, none⟩) := by
  subst hz hlen
  unfold maxLen at hcm
  have h0 := nd_cell hr 0 _ rfl
  have hfz : w.frozen? ⟨r, 0, none⟩ = false := by simp [World.frozen?, hr]
  go_enter Try.func46, Try.ntmps46
  go_wp2_with fail
  go_loop [5, 14] (fun v i => ∃ k : Nat, k ≤ s ∧ i = .int .i64 k ∧ v = .int .u64 (val (xs.take k))) (fun _ i => s - (intOf i).toNat)
  case atStart => exact ⟨0, by omega, rfl, by simp [val]⟩
  case round =>
    obtain ⟨k, hk, rfl, rfl⟩ := hrel
    by_cases hlt : k < s
    · obtain ⟨b, off, hbo, hcl⟩ := hx (by intro h; subst h; simp at hs; omega)
      injection hbo with hbo
      injection hbo with e1 e2 e3
      subst e1 e2
      have hck := hcl k (by omega)
      clear hcl
      have hv : val (xs.take k) < 72057594037927936 := by
        have := val_lt (xs.take k)
        have h2 : 256 ^ (xs.take k).length ≤ 256 ^ 7 := Nat.pow_le_pow_right (by omega) (by simp; omega)
        omega
      go_wp2_with fail
      go_round
      case rel =>
        refine ⟨k + 1, by omega, by go_num, ?_⟩
        have hlt2 : k < xs.length := by omega
        have hw : IntKind.u64.wrap (xs[k].toNat : Int) = (xs[k].toNat : Int) := by have := xs[k].toNat_lt; rw [IntKind.wrap_u64]; omega
        rw [hw, or_u64n _ _ hv, List.take_succ_eq_append_getElem hlt2, val_snoc]
      case measure => simp [intOf]; omega
    · obtain rfl : k = s := by omega
      by_cases hcs : cap = k
      · subst hcs
        go_wp2_with fail
        go_ret
        exact ⟨rfl, _, rfl, fun h => by omega⟩
      · go_wp2_with fail
        go_ret
        exact ⟨rfl, _, rfl, fun _ => rfl⟩

theorem _root_.Go.World.grownBy.setCell_own {w w' : World} {g : Nat} (h : w.grownBy w' (some g)) (i : Nat) (v : Value) : w.grownBy (w'.setCell ⟨g, i, none⟩ v) (some g) :=
  ⟨h.os, h.tape, h.output, by simpa using h.size, fun k hk hne => (Below.heap_setCell w' ⟨g, i, none⟩ v k (fun e => hne (by rw [e]))).trans (h.block k hk hne)⟩
theorem bytes_grown {w w' : World} {g o r : Nat} {xs : List UInt8} (h : BytesAt w (some ⟨g, o, none⟩) xs) (hg : w.grownBy w' (some r)) (hne : g ≠ r) : BytesAt w' (some ⟨g, o, none⟩) xs := fun hx => by
  obtain ⟨b, off, hbo, hc⟩ := h hx
  injection hbo with hbo
  injection hbo with e1 e2 e3
  subst e1 e2
  exact ⟨g, o, rfl, fun k hk => (World.cell?_of_block (a := ⟨g, o + k, none⟩) (hg.block g (World.block_lt_of_cell? _ _ (hc k hk)) (fun e => hne (by injection e)))).trans (hc k hk)⟩

end Go.Proofs.Ytgkddhncfaeidaa
