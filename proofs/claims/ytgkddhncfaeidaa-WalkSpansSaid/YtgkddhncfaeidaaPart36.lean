/- Several texts in one: Take of nothing, and of what is no view; how many nodes the reference says. Take of what is no view. How many nodes the reference says are read. A tree of entries, and the law's walks. WalkTwice: its walk. -/
import Derived.Test.YtgkddhncfaeidaaTvTq
import Derived.Test.YtgkddhncfaeidaaTvTa
import Derived.Test.YtgkddhncfaeidaaPart32
import Derived.Test.YtgkddhncfaeidaaTvBu
set_option linter.unusedSimpArgs false
set_option linter.unusedVariables false
namespace Go.Proofs.Ytgkddhncfaeidaa
open Go.RowKit Go.Shelf CrcM PageM
set_option linter.unusedVariables false
attribute [local go_sem] Oper.semAt_some

set_option maxRecDepth 100000 in
set_option maxHeartbeats 8000000 in
theorem take_none (gv a hh : Nat) (n : Int) (hn1 : n < 1) (hh5 : hh ≤ 5) (w : World) :
    CallsIn Fence.wide 3 Try.prog 25 #[.pointer (some ⟨gv, 0, none⟩), .agg #[.int .i64 (a : Int), .int .i64 (hh : Int)], .int .i64 n] w fun e w' => e = .returned (.tuple #[.slice none 0 0, .int .i64 0, .int .i64 0]) ∧ Below w.heap.size w w' := by
  have hd1 : decide (n < 1) = true := by simp; omega
  refine callsIn_of_wp_marks Try.func25 rfl trivial ?_ rfl
  simp only [Try.ntmps25, List.size_toArray, List.length_cons, List.length_nil, Nat.reduceAdd, Nat.reduceSub, Array.replicate_succ, Array.replicate_zero, List.push_toArray, List.append_toArray, List.nil_append, List.cons_append]
  gi_wp2
  obtain ⟨w5, hw5⟩ : ∃ w5, w5 = (((((w.alloc (.cells #[.int .i64 (a : Int), .int .i64 (hh : Int)] 63)).alloc (.cells #[.int .i64 n] 3)).alloc (.cells #[.slice none 0 0] 31)).alloc (.cells #[.int .i64 0] 3)).alloc (.cells #[.int .i64 0] 28)) := ⟨_, rfl⟩
  have Z5 : Hid (w5.heap.size = w.heap.size + 5) := Lib.hid (by rw [hw5]; simp)
  have B5 : Hid (Below w.heap.size w w5) := Lib.hid (by rw [hw5]; exact (((((Below.refl _ _).alloc (Nat.le_refl _) _).alloc (by simp) _).alloc (by simp; omega) _).alloc (by simp; omega) _).alloc (by simp; omega) _)
  have G4 : Hid (w5.heap[w.heap.size]? = some (.cells #[.int .i64 (a : Int), .int .i64 (hh : Int)] 63 (0, 0))) := Lib.hid (by
    rw [hw5]
    exact row_stays (row_stays (row_stays (row_stays (heap_alloc_new w _) (alloc_bel rfl)) (alloc_bel rfl)) (alloc_bel rfl)) (alloc_bel rfl))
  have G5 : Hid (w5.heap[w.heap.size + 1]? = some (.cells #[.int .i64 n] 3 (0, 0))) := Lib.hid (by
    rw [hw5]
    have h1 := heap_alloc_new (w.alloc (.cells #[.int .i64 (a : Int), .int .i64 (hh : Int)] 63)) (.cells #[.int .i64 n] 3)
    rw [World.size_alloc] at h1
    exact row_stays (row_stays (row_stays h1 (alloc_bel rfl)) (alloc_bel rfl)) (alloc_bel rfl))
  have G6 : Hid (w5.heap[w.heap.size + 1 + 1]? = some (.cells #[.slice none 0 0] 31 (0, 0))) := Lib.hid (by
    rw [hw5]
    have h1 := heap_alloc_new ((w.alloc (.cells #[.int .i64 (a : Int), .int .i64 (hh : Int)] 63)).alloc (.cells #[.int .i64 n] 3)) (.cells #[.slice none 0 0] 31)
    rw [World.size_alloc, World.size_alloc] at h1
    exact row_stays (row_stays h1 (alloc_bel rfl)) (alloc_bel rfl))
  have G7 : Hid (w5.heap[w.heap.size + 1 + 1 + 1]? = some (.cells #[.int .i64 0] 3 (0, 0))) := Lib.hid (by
    rw [hw5]
    have h1 := heap_alloc_new (((w.alloc (.cells #[.int .i64 (a : Int), .int .i64 (hh : Int)] 63)).alloc (.cells #[.int .i64 n] 3)).alloc (.cells #[.slice none 0 0] 31)) (.cells #[.int .i64 0] 3)
    rw [World.size_alloc, World.size_alloc, World.size_alloc] at h1
    exact row_stays h1 (alloc_bel rfl))
  have G8 : Hid (w5.heap[w.heap.size + 1 + 1 + 1 + 1]? = some (.cells #[.int .i64 0] 28 (0, 0))) := Lib.hid (by
    rw [hw5]
    have h1 := heap_alloc_new ((((w.alloc (.cells #[.int .i64 (a : Int), .int .i64 (hh : Int)] 63)).alloc (.cells #[.int .i64 n] 3)).alloc (.cells #[.slice none 0 0] 31)).alloc (.cells #[.int .i64 0] 3)) (.cells #[.int .i64 0] 28)
    rw [World.size_alloc, World.size_alloc, World.size_alloc, World.size_alloc] at h1
    exact h1)
  rw [← hw5]
  clear hw5
  refine ⟨trivial, (callsIn_wide.2 (refused_ok gv (a : Int) (hh : Int) (by omega) (by omega) w5)).mono ?_⟩
  rintro e w6 ⟨rfl, hb6⟩
  have B6 := Lib.hid (B5.out.trans (hb6.mono B5.out.size))
  have E4 := Lib.hid (row_stays G4.out hb6)
  have E5 := Lib.hid (row_stays G5.out hb6)
  have E6 := Lib.hid (row_stays G6.out hb6)
  have E7 := Lib.hid (row_stays G7.out hb6)
  have E8 := Lib.hid (row_stays G8.out hb6)
  have Z6 : Hid (w.heap.size + 5 ≤ w6.heap.size) := Lib.hid (by rw [← Z5.out]; exact hb6.size)
  clear hb6 G4 G5 G6 G7 G8 B5 Z5
  have h6 : Boxed w6 (w.heap.size + 1 + 1) 31 (.slice none 0 0) := E6.out
  have h7 : Boxed w6 (w.heap.size + 1 + 1 + 1) 3 (.int .i64 0) := E7.out
  have h8 : Boxed w6 (w.heap.size + 1 + 1 + 1 + 1) 28 (.int .i64 0) := E8.out
  have k5 : w6.cell? ⟨w.heap.size + 1, 0, none⟩ = some (.int .i64 n) := nd_cell E5.out 0 _ rfl
  have c6 := h6.cell
  have c7 := h7.cell
  have c8 := h8.cell
  have f6 := h6.frozen
  have f7 := h7.frozen
  have f8 := h8.frozen
  have H6 := Lib.hid h6
  have H7 := Lib.hid h7
  have H8 := Lib.hid h8
  clear h6 h7 h8
  gi_wp2
  have r6 := Boxed.other (Boxed.other (H6.out.set (.slice none 0 0)) (by omega : w.heap.size + 1 + 1 ≠ w.heap.size + 1 + 1 + 1) (.int .i64 0)) (by omega : w.heap.size + 1 + 1 ≠ w.heap.size + 1 + 1 + 1 + 1) (.int .i64 0)
  have r7 := Boxed.other ((Boxed.other H7.out (by omega : w.heap.size + 1 + 1 + 1 ≠ w.heap.size + 1 + 1) (.slice none 0 0)).set (.int .i64 0)) (by omega : w.heap.size + 1 + 1 + 1 ≠ w.heap.size + 1 + 1 + 1 + 1) (.int .i64 0)
  have r8 := (Boxed.other (Boxed.other H8.out (by omega : w.heap.size + 1 + 1 + 1 + 1 ≠ w.heap.size + 1 + 1) (.slice none 0 0)) (by omega : w.heap.size + 1 + 1 + 1 + 1 ≠ w.heap.size + 1 + 1 + 1) (.int .i64 0)).set (.int .i64 0)
  refine ⟨.tuple #[.slice none 0 0, .int .i64 0, .int .i64 0], results_cells3 (p := 6) (q := 7) (r := 8) rfl _ _ ⟨w.heap.size + 1 + 1, 0, none⟩ ⟨w.heap.size + 1 + 1 + 1, 0, none⟩ ⟨w.heap.size + 1 + 1 + 1 + 1, 0, none⟩ _ _ _ rfl rfl rfl (run_loadVar_one _ _ _ _ _ Try.underlying31 rfl r6.cell) (run_loadVar_one _ _ _ _ _ Try.underlying3 rfl r7.cell) (run_loadVar_one _ _ _ _ _ Try.underlying28 rfl r8.cell), rfl, ?_⟩
  exact ((B6.out.setCell (p := ⟨w.heap.size + 1 + 1, 0, none⟩) (by show w.heap.size ≤ w.heap.size + 1 + 1; omega) _).setCell (p := ⟨w.heap.size + 1 + 1 + 1, 0, none⟩) (by show w.heap.size ≤ w.heap.size + 1 + 1 + 1; omega) _).setCell (p := ⟨w.heap.size + 1 + 1 + 1 + 1, 0, none⟩) (by show w.heap.size ≤ w.heap.size + 1 + 1 + 1 + 1; omega) _
end Go.Proofs.Ytgkddhncfaeidaa

namespace Go.Proofs.Ytgkddhncfaeidaa
open Go.RowKit Go.Shelf CrcM PageM
set_option linter.unusedVariables false
attribute [local go_sem] Oper.semAt_some

set_option maxRecDepth 100000 in
theorem refused_nil (a h : Int) (w : World) :
    Calls Try.prog 57 #[.pointer none, .agg #[.int .i64 a, .int .i64 h]] w fun e w' => e = .returned (.int .i64 1) ∧ Below w.heap.size w w' := by
  go_enter Try.func57, Try.ntmps57
  go_wp2_with fail
  go_ret
  exact ⟨rfl, (Below.refl _ _).alloc (Nat.le_refl _) _⟩

set_option maxRecDepth 100000 in
set_option maxHeartbeats 8000000 in
theorem take_nil (a hh : Int) (n : Int) (w : World) :
    CallsIn Fence.wide 3 Try.prog 25 #[.pointer none, .agg #[.int .i64 a, .int .i64 hh], .int .i64 n] w fun e w' => e = .returned (.tuple #[.slice none 0 0, .int .i64 0, .int .i64 1]) ∧ Below w.heap.size w w' := by
  refine callsIn_of_wp_marks Try.func25 rfl trivial ?_ rfl
  simp only [Try.ntmps25, List.size_toArray, List.length_cons, List.length_nil, Nat.reduceAdd, Nat.reduceSub, Array.replicate_succ, Array.replicate_zero, List.push_toArray, List.append_toArray, List.nil_append, List.cons_append]
  gi_wp2
  obtain ⟨w5, hw5⟩ : ∃ w5, w5 = (((((w.alloc (.cells #[.int .i64 a, .int .i64 hh] 63)).alloc (.cells #[.int .i64 n] 3)).alloc (.cells #[.slice none 0 0] 31)).alloc (.cells #[.int .i64 0] 3)).alloc (.cells #[.int .i64 0] 28)) := ⟨_, rfl⟩
  have Z5 : Hid (w5.heap.size = w.heap.size + 5) := Lib.hid (by rw [hw5]; simp)
  have B5 : Hid (Below w.heap.size w w5) := Lib.hid (by rw [hw5]; exact (((((Below.refl _ _).alloc (Nat.le_refl _) _).alloc (by simp) _).alloc (by simp; omega) _).alloc (by simp; omega) _).alloc (by simp; omega) _)
  have G4 : Hid (w5.heap[w.heap.size]? = some (.cells #[.int .i64 a, .int .i64 hh] 63 (0, 0))) := Lib.hid (by
    rw [hw5]
    exact row_stays (row_stays (row_stays (row_stays (heap_alloc_new w _) (alloc_bel rfl)) (alloc_bel rfl)) (alloc_bel rfl)) (alloc_bel rfl))
  have G5 : Hid (w5.heap[w.heap.size + 1]? = some (.cells #[.int .i64 n] 3 (0, 0))) := Lib.hid (by
    rw [hw5]
    have h1 := heap_alloc_new (w.alloc (.cells #[.int .i64 a, .int .i64 hh] 63)) (.cells #[.int .i64 n] 3)
    rw [World.size_alloc] at h1
    exact row_stays (row_stays (row_stays h1 (alloc_bel rfl)) (alloc_bel rfl)) (alloc_bel rfl))
  have G6 : Hid (w5.heap[w.heap.size + 1 + 1]? = some (.cells #[.slice none 0 0] 31 (0, 0))) := Lib.hid (by
    rw [hw5]
    have h1 := heap_alloc_new ((w.alloc (.cells #[.int .i64 a, .int .i64 hh] 63)).alloc (.cells #[.int .i64 n] 3)) (.cells #[.slice none 0 0] 31)
    rw [World.size_alloc, World.size_alloc] at h1
    exact row_stays (row_stays h1 (alloc_bel rfl)) (alloc_bel rfl))
  have G7 : Hid (w5.heap[w.heap.size + 1 + 1 + 1]? = some (.cells #[.int .i64 0] 3 (0, 0))) := Lib.hid (by
    rw [hw5]
    have h1 := heap_alloc_new (((w.alloc (.cells #[.int .i64 a, .int .i64 hh] 63)).alloc (.cells #[.int .i64 n] 3)).alloc (.cells #[.slice none 0 0] 31)) (.cells #[.int .i64 0] 3)
    rw [World.size_alloc, World.size_alloc, World.size_alloc] at h1
    exact row_stays h1 (alloc_bel rfl))
  have G8 : Hid (w5.heap[w.heap.size + 1 + 1 + 1 + 1]? = some (.cells #[.int .i64 0] 28 (0, 0))) := Lib.hid (by
    rw [hw5]
    have h1 := heap_alloc_new ((((w.alloc (.cells #[.int .i64 a, .int .i64 hh] 63)).alloc (.cells #[.int .i64 n] 3)).alloc (.cells #[.slice none 0 0] 31)).alloc (.cells #[.int .i64 0] 3)) (.cells #[.int .i64 0] 28)
    rw [World.size_alloc, World.size_alloc, World.size_alloc, World.size_alloc] at h1
    exact h1)
  rw [← hw5]
  clear hw5
  refine ⟨trivial, (callsIn_wide.2 (refused_nil a hh w5)).mono ?_⟩
  rintro e w6 ⟨rfl, hb6⟩
  have B6 := Lib.hid (B5.out.trans (hb6.mono B5.out.size))
  have E4 := Lib.hid (row_stays G4.out hb6)
  have E5 := Lib.hid (row_stays G5.out hb6)
  have E6 := Lib.hid (row_stays G6.out hb6)
  have E7 := Lib.hid (row_stays G7.out hb6)
  have E8 := Lib.hid (row_stays G8.out hb6)
  have Z6 : Hid (w.heap.size + 5 ≤ w6.heap.size) := Lib.hid (by rw [← Z5.out]; exact hb6.size)
  clear hb6 G4 G5 G6 G7 G8 B5 Z5
  have h6 : Boxed w6 (w.heap.size + 1 + 1) 31 (.slice none 0 0) := E6.out
  have h7 : Boxed w6 (w.heap.size + 1 + 1 + 1) 3 (.int .i64 0) := E7.out
  have h8 : Boxed w6 (w.heap.size + 1 + 1 + 1 + 1) 28 (.int .i64 0) := E8.out
  have k5 : w6.cell? ⟨w.heap.size + 1, 0, none⟩ = some (.int .i64 n) := nd_cell E5.out 0 _ rfl
  have c6 := h6.cell
  have c7 := h7.cell
  have c8 := h8.cell
  have f6 := h6.frozen
  have f7 := h7.frozen
  have f8 := h8.frozen
  have H6 := Lib.hid h6
  have H7 := Lib.hid h7
  have H8 := Lib.hid h8
  clear h6 h7 h8
  gi_wp2
  have r6 := Boxed.other (Boxed.other (H6.out.set (.slice none 0 0)) (by omega : w.heap.size + 1 + 1 ≠ w.heap.size + 1 + 1 + 1) (.int .i64 0)) (by omega : w.heap.size + 1 + 1 ≠ w.heap.size + 1 + 1 + 1 + 1) (.int .i64 1)
  have r7 := Boxed.other ((Boxed.other H7.out (by omega : w.heap.size + 1 + 1 + 1 ≠ w.heap.size + 1 + 1) (.slice none 0 0)).set (.int .i64 0)) (by omega : w.heap.size + 1 + 1 + 1 ≠ w.heap.size + 1 + 1 + 1 + 1) (.int .i64 1)
  have r8 := (Boxed.other (Boxed.other H8.out (by omega : w.heap.size + 1 + 1 + 1 + 1 ≠ w.heap.size + 1 + 1) (.slice none 0 0)) (by omega : w.heap.size + 1 + 1 + 1 + 1 ≠ w.heap.size + 1 + 1 + 1) (.int .i64 0)).set (.int .i64 1)
  refine ⟨.tuple #[.slice none 0 0, .int .i64 0, .int .i64 1], results_cells3 (p := 6) (q := 7) (r := 8) rfl _ _ ⟨w.heap.size + 1 + 1, 0, none⟩ ⟨w.heap.size + 1 + 1 + 1, 0, none⟩ ⟨w.heap.size + 1 + 1 + 1 + 1, 0, none⟩ _ _ _ rfl rfl rfl (run_loadVar_one _ _ _ _ _ Try.underlying31 rfl r6.cell) (run_loadVar_one _ _ _ _ _ Try.underlying3 rfl r7.cell) (run_loadVar_one _ _ _ _ _ Try.underlying28 rfl r8.cell), rfl, ?_⟩
  exact ((B6.out.setCell (p := ⟨w.heap.size + 1 + 1, 0, none⟩) (by show w.heap.size ≤ w.heap.size + 1 + 1; omega) _).setCell (p := ⟨w.heap.size + 1 + 1 + 1, 0, none⟩) (by show w.heap.size ≤ w.heap.size + 1 + 1 + 1; omega) _).setCell (p := ⟨w.heap.size + 1 + 1 + 1 + 1, 0, none⟩) (by show w.heap.size ≤ w.heap.size + 1 + 1 + 1 + 1; omega) _
end Go.Proofs.Ytgkddhncfaeidaa

namespace Go.Proofs.Ytgkddhncfaeidaa
open Go.RowKit
set_option linter.unusedVariables false

def cl (x c : Nat) : Nat := (x + c - 1) / c
def NDp (k : Nat) : Nat → Nat
  | 0 => 0
  | j + 1 => NDp k j + cl k (capH j)
theorem NDp_ND (k : Nat) : ∀ g, NDp k (g + 1) = ND g k
  | 0 => by rw [NDp, NDp, ND, cl]; show 0 + (k + 7 * 16 ^ 0 - 1) / (7 * 16 ^ 0) = _; simp
  | g + 1 => by rw [NDp, NDp_ND k g, ND, cl]
theorem cl_le (x c : Nat) (hc : 0 < c) : cl x c ≤ x := by
  unfold cl
  rcases Nat.eq_zero_or_pos x with h | h
  · rw [h, Nat.zero_add, Nat.div_eq_of_lt (by omega)]; exact Nat.le_refl _
  · refine Nat.div_le_of_le_mul ?_
    have h1 : x * 1 ≤ x * c := Nat.mul_le_mul_left x hc
    obtain ⟨c', rfl⟩ : ∃ c', c = c' + 1 := ⟨c - 1, by omega⟩
    have h2 : 1 * c' ≤ x * c' := Nat.mul_le_mul_right c' h
    rw [Nat.succ_mul, Nat.mul_comm c' x]
    omega
theorem NDp_le (k : Nat) : ∀ j, NDp k j ≤ j * k
  | 0 => by simp [NDp]
  | j + 1 => by
    rw [NDp, Nat.succ_mul]
    exact Nat.add_le_add (NDp_le k j) (cl_le k _ (capH_pos j))

end Go.Proofs.Ytgkddhncfaeidaa

namespace Go.Proofs.Ytgkddhncfaeidaa
open Go.RowKit Go.ChangeShapes Go.WideShapes Go.ChangeAt CrcM PageM
set_option linter.unusedVariables false

/-- A view, and the tree of these entries beneath a root. -/
def TreeAt (W : World) (gv a hh : Nat) (es : List EntD) : Prop := ∃ U g B N gs gn Ls cs cn rw st nw ws, ViewAt W gv g 1 ((200 : Nat) : Int) U map0 ∧ Dk W B N g gs gn rw Ls cs cn st nw ws true (-1) ∧ TreeR nw Ls a hh es
theorem TreeAt.below {W W' : World} {gv a hh : Nat} {es : List EntD} (h : TreeAt W gv a hh es) (hb : Below W.heap.size W W') : TreeAt W' gv a hh es := by
  obtain ⟨U, g, B, N, gs, gn, Ls, cs, cn, rw, st, nw, ws, h1, h2, h3⟩ := h
  exact ⟨U, g, B, N, gs, gn, Ls, cs, cn, rw, st, nw, ws, h1.below hb, h2.below hb, h3⟩
theorem TreeR.hh5 {nw : List UInt8} {Ls a hh : Nat} {es : List EntD} (h : TreeR nw Ls a hh es) : hh ≤ 5 := by
  rcases h with ⟨_, h⟩ | ⟨h, n, e1, e2, _⟩ <;> omega
theorem cntR_le (hh k : Nat) (h5 : hh ≤ 5) : cntR hh k ≤ 5 * k := by
  unfold cntR
  by_cases h0 : k = 0
  · rw [if_pos h0]; omega
  · rw [if_neg h0, ← NDp_ND]
    refine Nat.le_trans (NDp_le k _) (Nat.mul_le_mul_right k ?_)
    omega
theorem TreeAt.hh5 {W : World} {gv a hh : Nat} {es : List EntD} (h : TreeAt W gv a hh es) : hh ≤ 5 := by
  obtain ⟨U, g, B, N, gs, gn, Ls, cs, cn, rw, st, nw, ws, h1, h2, h3⟩ := h
  exact h3.hh5
theorem TreeAt.nine {W : World} {gv a hh : Nat} {es : List EntD} (h : TreeAt W gv a hh es) (h9 : es.length = 9) : cntR hh 3 = 2 := by
  obtain ⟨U, g, B, N, gs, gn, Ls, cs, cn, rw, st, nw, ws, h1, h2, h3⟩ := h
  rcases h3 with ⟨e, _⟩ | ⟨h, n, rfl, e2, _, _, _, e6, e7⟩
  · rw [e] at h9; cases h9
  · rw [h9] at e6 e7
    match h, e2, e6, e7 with
    | 0, _, e6, _ => exact absurd e6 (by decide)
    | 1, _, _, _ => decide
    | h + 2, _, _, e7 => exact absurd (e7 1 (by omega)) (by decide)
theorem take_tree (gv a hh : Nat) (es : List EntD) (hle : es.length ≤ 1000) (n : Nat) (hn : n ≤ 1000000) (w : World) (h : TreeAt w gv a hh es) :
    Calls Try.prog 25 #[.pointer (some ⟨gv, 0, none⟩), .agg #[.int .i64 (a : Int), .int .i64 (hh : Int)], .int .i64 (n : Int)] w fun e w' => (∃ A c, e = .returned (.tuple #[.slice A (min n es.length) c, .int .i64 (cntR hh (min n es.length) : Int), .int .i64 0]) ∧ w'.ownsRow w.heap.size 77 8 (.slice A (min n es.length) c) (min n es.length) ((es.take n).flatMap enC)) ∧ Below w.heap.size w w' := by
  have h5 := h.hh5
  by_cases h1 : 1 ≤ n
  · obtain ⟨U, g, B, N, gs, gn, Ls, cs, cn, rw, st, nw, ws, hv, hd, ht⟩ := h
    have hc := cntR_le hh es.length h5
    exact callsIn_wide.1 (take_go gv g 1 200 a hh U map0 es ht hle (by omega) n h1 hn w hv hd)
  · obtain rfl : n = 0 := by omega
    refine (callsIn_wide.1 (take_none gv a hh ((0 : Nat) : Int) (by decide) h5 w)).mono ?_
    rintro e w' ⟨rfl, hb⟩
    rw [Nat.zero_min]
    exact ⟨⟨none, 0, rfl, World.ownsRow_nil _ _ _ _⟩, hb⟩

set_option maxRecDepth 100000 in
set_option maxHeartbeats 8000000 in
theorem walks_any (w : World) :
    Calls Try.prog 23 #[] w fun e w' => e = .returned (.bool true) ∧ Below w.heap.size w w' := by
  have HBU : Hid (Calls Try.prog 24 #[.int .i64 9, .int .i64 1] w fun e w' => ∃ (gv a hh : Nat) (A : Option Addr) (c : Nat), e = .returned (.tuple #[.pointer (some ⟨gv, 0, none⟩), .agg #[.int .i64 (a : Int), .int .i64 (hh : Int)], .slice A 9 c, .bool true]) ∧
      TreeAt w' gv a hh (ents 9 1) ∧ w'.ownsRow w.heap.size 51 8 (.slice A 9 c) 9 ((ents 9 1).flatMap enC) ∧ Below w.heap.size w w') := Lib.hid (build_any 9 1 (by decide) (by decide) w)
  go_enter Try.func23, Try.ntmps23
  go_upto_region 2 with (go_at_call 24; refine HBU.out.mono ?_; rintro e w1 ⟨gv, a, hh, A, c, rfl, ht, hr, hb⟩; have T1 := Lib.hid ht; have R1 := Lib.hid hr; have B1 := Lib.hid hb; clear ht hr hb HBU)
  obtain ⟨w2, hw2⟩ : ∃ w2, w2 = w1.alloc (.cells #[.int .i64 (a : Int), .int .i64 (hh : Int)] 63) := ⟨_, rfl⟩
  have G2 : Hid (w2.heap[w1.heap.size]? = some (.cells #[.int .i64 (a : Int), .int .i64 (hh : Int)] 63 (0, 0))) := Lib.hid (by rw [hw2]; exact heap_alloc_new _ _)
  have B12 := Lib.hid (alloc_bel hw2)
  rw [← hw2]
  clear hw2
  have T2 := Lib.hid (T1.out.below B12.out)
  have h9 : min 3 (ents 9 1).length = 3 := by rw [ents_len]; decide
  have hc2 : cntR hh 3 = 2 := T1.out.nine (ents_len 9 1)
  have HTA := Lib.hid (take_tree gv a hh (ents 9 1) (by rw [ents_len]; decide) 3 (by decide) w2 T2.out)
  rw [h9, hc2] at HTA
  clear h9 hc2
  go_upto_region 5 with (first
    | (refine wpList_load_row rfl 63 (.tmp 2) rfl w1.heap.size rfl 63 _ (0, 0) _ G2.out Try.underlying63 rfl (by kernel_rfl) ?_)
    | (go_at_call 25; refine HTA.out.mono ?_; rintro e w3 ⟨⟨A3, c3, rfl, hr⟩, hb⟩; have R3 := Lib.hid hr; have B23 := Lib.hid hb; clear hr hb HTA))
  have G3 := Lib.hid (row_stays G2.out B23.out)
  go_upto_region 6 with (first
    | (refine wpList_load_row rfl 63 (.tmp 2) rfl w1.heap.size rfl 63 _ (0, 0) _ G3.out Try.underlying63 rfl (by kernel_rfl) ?_)
    | (go_at_call 25; refine (callsIn_wide.1 (take_nil (a : Int) (hh : Int) 3 w3)).mono ?_; rintro e w4 ⟨rfl, hb⟩; have B34 := Lib.hid hb; clear hb))
  have B24 : Hid (Below w2.heap.size w2 w4) := Lib.hid (B23.out.trans (B34.out.mono B23.out.size))
  have B14 : Hid (Below w1.heap.size w1 w4) := Lib.hid (B12.out.trans (B24.out.mono B12.out.size))
  have BW4 : Hid (Below w.heap.size w w4) := Lib.hid (B1.out.trans (B14.out.mono B1.out.size))
  have E3 : Hid (EnAt w4 A3 (ents 3 1)) := Lib.hid (EnAt.of_row (by have h1 := row_below R3.out B34.out; rw [ents_take] at h1; exact h1))
  have E1 : Hid (EnAt w4 A (ents 9 1)) := Lib.hid (EnAt.of_row (row_below R1.out B14.out))
  obtain ⟨hc9, hcm⟩ := row_cap R1.out
  have hcm' : c ≤ 9223372036854775807 := hcm
  have hcz : ¬ c = 0 := by omega
  have hc3 : ¬ c = 3 := by omega
  refine region_waysT 22 w4.heap.size (Nat.le_refl _) (.one [0, 1, 2, 3, 4, 5, 6, 7, 8, 9, 10, 11, 12, 13, 14, 15, 16, 18, 19] 17 (.one [] 20 (.done [21]))) (by kernel_rfl) (by kernel_rfl) ?_
  rintro wd hbd
  have BD := Lib.hid hbd
  clear hbd
  rw [wpWaysT_one]
  try simp only [List.map_cons, List.map_nil, opAt, List.getElem?_toArray, List.getElem?_cons_zero, List.getElem?_cons_succ, Option.getD_some]
  repeat (first
    | go_big_quiet_step (fail))
  refine wpQuiet_nil ?_
  go_wp2_with (go_at_call 27; refine (back_list (ents 3 1) A3 3 c3 wd (ents_len 3 1) (by decide) (E3.out.below BD.out)).mono ?_; rintro e w5 ⟨A5, c5, rfl, hr, hb⟩; have R5 := Lib.hid hr; have B5 := Lib.hid hb; clear hr hb)
  have B45 : Hid (Below w4.heap.size w4 w5) := Lib.hid (BD.out.trans (B5.out.mono BD.out.size))
  refine ⟨⟨⟨_, B45.out⟩, rfl⟩, ?_⟩
  try simp only [Act.put, List.setIfInBounds_toArray, List.set_cons_zero, List.set_cons_succ]
  rw [wpWaysT_one]
  try simp only [List.map_cons, List.map_nil, opAt, List.getElem?_toArray, List.getElem?_cons_zero, List.getElem?_cons_succ, Option.getD_some]
  refine wpQuiet_nil ?_
  have EB : Hid (EnAt w5 A (ents 3 1)) := Lib.hid (by
    have h1 := (E1.out.below B45.out).take 3
    rw [ents_take] at h1
    exact h1)
  go_wp2_with (go_at_call 26; refine (same_list (ents 3 1) A5 A 3 c5 c w5 (ents_len 3 1) (by decide) (EnAt.of_row R5.out) EB.out).mono ?_; rintro e w6 ⟨rfl, hb⟩; have B6 := Lib.hid hb; clear hb)
  have B46 : Hid (Below w4.heap.size w4 w6) := Lib.hid (B45.out.trans (B6.out.mono B45.out.size))
  refine ⟨⟨⟨_, B46.out⟩, rfl⟩, ?_⟩
  try simp only [Act.put, List.setIfInBounds_toArray, List.set_cons_zero, List.set_cons_succ]
  rw [wpWaysT_done]
  simp only [List.map_cons, List.map_nil, List.drop_succ_cons, List.drop_zero, opAt, List.getElem?_toArray, List.getElem?_cons_zero, List.getElem?_cons_succ, Option.getD_some]
  repeat (first
    | go_big_quiet_step (fail))
  refine wpQuiet_nil ?_
  go_wp2_with fail
  go_ret
  exact ⟨rfl, BW4.out.trans (B46.out.mono BW4.out.size)⟩
end Go.Proofs.Ytgkddhncfaeidaa

namespace Go.Proofs.Ytgkddhncfaeidaa
open Go.RowKit Go.ChangeShapes Go.WideShapes Go.ChangeAt CrcM PageM
set_option linter.unusedVariables false

theorem modW (a : Int) (m : Nat) (h0 : 0 < m) (hm : m ≤ 1000000) : ∃ k : Nat, k < m ∧ wrap64 ((IntKind.u64.wrap a).tmod (m : Int)) = (k : Int) := by
  obtain ⟨u, hu⟩ : ∃ u : Nat, IntKind.u64.wrap a = (u : Int) := ⟨(IntKind.u64.wrap a).toNat, by
    have h1 : 0 ≤ IntKind.u64.wrap a := by rw [IntKind.wrap_u64]; omega
    omega⟩
  rw [hu]
  refine ⟨u % m, Nat.mod_lt _ h0, ?_⟩
  have h2 := Nat.mod_lt u h0
  have h3 : (u : Int).tmod (m : Int) = ((u % m : Nat) : Int) := rfl
  rw [h3]
  unfold wrap64
  omega
end Go.Proofs.Ytgkddhncfaeidaa
