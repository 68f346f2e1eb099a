/- Several texts in one: Spans of no range, and of what is no view. Series of a root that is too high. -/
import Derived.Test.YtgkddhncfaeidaaPart37
set_option linter.unusedSimpArgs false
set_option linter.unusedVariables false
namespace Go.Proofs.Ytgkddhncfaeidaa
open Go.RowKit Go.Shelf CrcM PageM
set_option linter.unusedVariables false
attribute [local go_sem] Oper.semAt_some

set_option maxRecDepth 100000 in
set_option maxHeartbeats 8000000 in
theorem spans_none (gv a hh : Nat) (S f t : Int) (h5 : hh ≤ 5) (hft : t < f) (w : World) :
    CallsIn Fence.wide 3 Try.prog 32 #[.pointer (some ⟨gv, 0, none⟩), .agg #[.int .i64 (a : Int), .int .i64 (hh : Int)], .int .i64 S, .int .i64 f, .int .i64 t] w fun e w' => e = .returned (.tuple #[.slice none 0 0, .int .i64 0]) ∧ Below w.heap.size w w' := by
  have hd1 : decide (f > t) = true := by simpa using hft
  refine callsIn_of_wp_marks Try.func32 rfl trivial ?_ rfl
  simp only [Try.ntmps32, List.size_toArray, List.length_cons, List.length_nil, Nat.reduceAdd, Nat.reduceSub, Array.replicate_succ, Array.replicate_zero, List.push_toArray, List.append_toArray, List.nil_append, List.cons_append]
  gi_wp2
  obtain ⟨w6, hw6⟩ : ∃ w6, w6 = ((((((w.alloc (.cells #[.int .i64 (a : Int), .int .i64 (hh : Int)] 63)).alloc (.cells #[.int .i64 S] 3)).alloc (.cells #[.int .i64 f] 2)).alloc (.cells #[.int .i64 t] 2)).alloc (.cells #[.slice none 0 0] 31)).alloc (.cells #[.int .i64 0] 28)) := ⟨_, rfl⟩
  have Z6 : Hid (w6.heap.size = w.heap.size + 6) := Lib.hid (by rw [hw6]; simp)
  have B6 : Hid (Below w.heap.size w w6) := Lib.hid (by rw [hw6]; exact ((((((Below.refl _ _).alloc (Nat.le_refl _) _).alloc (by simp) _).alloc (by simp; omega) _).alloc (by simp; omega) _).alloc (by simp; omega) _).alloc (by simp; omega) _)
  have G0 : Hid (w6.heap[w.heap.size]? = some (.cells #[.int .i64 (a : Int), .int .i64 (hh : Int)] 63 (0, 0))) := Lib.hid (by
    rw [hw6]
    have h1 := heap_alloc_new w (.cells #[.int .i64 (a : Int), .int .i64 (hh : Int)] 63)
    exact (row_stays (row_stays (row_stays (row_stays (row_stays h1 (alloc_bel rfl)) (alloc_bel rfl)) (alloc_bel rfl)) (alloc_bel rfl)) (alloc_bel rfl)))
  have G1 : Hid (w6.heap[w.heap.size + 1]? = some (.cells #[.int .i64 S] 3 (0, 0))) := Lib.hid (by
    rw [hw6]
    have h1 := heap_alloc_new (w.alloc (.cells #[.int .i64 (a : Int), .int .i64 (hh : Int)] 63)) (.cells #[.int .i64 S] 3)
    rw [World.size_alloc] at h1
    exact (row_stays (row_stays (row_stays (row_stays h1 (alloc_bel rfl)) (alloc_bel rfl)) (alloc_bel rfl)) (alloc_bel rfl)))
  have G2 : Hid (w6.heap[w.heap.size + 1 + 1]? = some (.cells #[.int .i64 f] 2 (0, 0))) := Lib.hid (by
    rw [hw6]
    have h1 := heap_alloc_new ((w.alloc (.cells #[.int .i64 (a : Int), .int .i64 (hh : Int)] 63)).alloc (.cells #[.int .i64 S] 3)) (.cells #[.int .i64 f] 2)
    rw [World.size_alloc, World.size_alloc] at h1
    exact (row_stays (row_stays (row_stays h1 (alloc_bel rfl)) (alloc_bel rfl)) (alloc_bel rfl)))
  have G3 : Hid (w6.heap[w.heap.size + 1 + 1 + 1]? = some (.cells #[.int .i64 t] 2 (0, 0))) := Lib.hid (by
    rw [hw6]
    have h1 := heap_alloc_new (((w.alloc (.cells #[.int .i64 (a : Int), .int .i64 (hh : Int)] 63)).alloc (.cells #[.int .i64 S] 3)).alloc (.cells #[.int .i64 f] 2)) (.cells #[.int .i64 t] 2)
    rw [World.size_alloc, World.size_alloc, World.size_alloc] at h1
    exact (row_stays (row_stays h1 (alloc_bel rfl)) (alloc_bel rfl)))
  have G4 : Hid (w6.heap[w.heap.size + 1 + 1 + 1 + 1]? = some (.cells #[.slice none 0 0] 31 (0, 0))) := Lib.hid (by
    rw [hw6]
    have h1 := heap_alloc_new ((((w.alloc (.cells #[.int .i64 (a : Int), .int .i64 (hh : Int)] 63)).alloc (.cells #[.int .i64 S] 3)).alloc (.cells #[.int .i64 f] 2)).alloc (.cells #[.int .i64 t] 2)) (.cells #[.slice none 0 0] 31)
    rw [World.size_alloc, World.size_alloc, World.size_alloc, World.size_alloc] at h1
    exact (row_stays h1 (alloc_bel rfl)))
  have G5 : Hid (w6.heap[w.heap.size + 1 + 1 + 1 + 1 + 1]? = some (.cells #[.int .i64 0] 28 (0, 0))) := Lib.hid (by
    rw [hw6]
    have h1 := heap_alloc_new (((((w.alloc (.cells #[.int .i64 (a : Int), .int .i64 (hh : Int)] 63)).alloc (.cells #[.int .i64 S] 3)).alloc (.cells #[.int .i64 f] 2)).alloc (.cells #[.int .i64 t] 2)).alloc (.cells #[.slice none 0 0] 31)) (.cells #[.int .i64 0] 28)
    rw [World.size_alloc, World.size_alloc, World.size_alloc, World.size_alloc, World.size_alloc] at h1
    exact h1)
  have HW6 := Lib.hid hw6
  clear hw6
  rw [← HW6.out]
  refine ⟨trivial, (callsIn_wide.2 (refused_ok gv (a : Int) (hh : Int) (by omega) (by omega) w6)).mono ?_⟩
  rintro e w7 ⟨rfl, hb7⟩
  have E0 := Lib.hid (row_stays G0.out hb7)
  have E1 := Lib.hid (row_stays G1.out hb7)
  have E2 := Lib.hid (row_stays G2.out hb7)
  have E3 := Lib.hid (row_stays G3.out hb7)
  have E4 := Lib.hid (row_stays G4.out hb7)
  have E5 := Lib.hid (row_stays G5.out hb7)
  have B7 := Lib.hid (B6.out.trans (hb7.mono B6.out.size))
  have k2 : w7.cell? ⟨w.heap.size + 1 + 1, 0, none⟩ = some (.int .i64 f) := nd_cell E2.out 0 _ rfl
  have k3 : w7.cell? ⟨w.heap.size + 1 + 1 + 1, 0, none⟩ = some (.int .i64 t) := nd_cell E3.out 0 _ rfl
  clear hb7 G0 G1 G2 G3 G4 G5 HW6
  have h4 : Boxed w7 (w.heap.size + 1 + 1 + 1 + 1) 31 (.slice none 0 0) := E4.out
  have h5 : Boxed w7 (w.heap.size + 1 + 1 + 1 + 1 + 1) 28 (.int .i64 0) := E5.out
  have c4 := h4.cell
  have f4 := h4.frozen
  have c5 := h5.cell
  have f5 := h5.frozen
  have H4 := Lib.hid h4
  have H5 := Lib.hid h5
  clear h4 h5
  gi_wp2
  have r4 := Boxed.other (H4.out.set (.slice none 0 0)) (by omega : w.heap.size + 1 + 1 + 1 + 1 ≠ w.heap.size + 1 + 1 + 1 + 1 + 1) (.int .i64 0)
  have r5 := (Boxed.other H5.out (by omega : w.heap.size + 1 + 1 + 1 + 1 + 1 ≠ w.heap.size + 1 + 1 + 1 + 1) (.slice none 0 0)).set (.int .i64 0)
  refine ⟨.tuple #[.slice none 0 0, .int .i64 0], results_cellsA2 (p := 10) (q := 11) rfl _ _ ⟨w.heap.size + 1 + 1 + 1 + 1, 0, none⟩ ⟨w.heap.size + 1 + 1 + 1 + 1 + 1, 0, none⟩ _ _ rfl rfl (run_loadVar_one _ _ _ _ _ Try.underlying31 rfl r4.cell) (run_loadVar_one _ _ _ _ _ Try.underlying28 rfl r5.cell), rfl, ?_⟩
  exact (B7.out.setCell (p := ⟨w.heap.size + 1 + 1 + 1 + 1, 0, none⟩) (by show w.heap.size ≤ w.heap.size + 1 + 1 + 1 + 1; omega) _).setCell (p := ⟨w.heap.size + 1 + 1 + 1 + 1 + 1, 0, none⟩) (by show w.heap.size ≤ w.heap.size + 1 + 1 + 1 + 1 + 1; omega) _

set_option maxRecDepth 100000 in
set_option maxHeartbeats 8000000 in
theorem spans_nil (a hh : Int) (S f t : Int) (w : World) :
    CallsIn Fence.wide 3 Try.prog 32 #[.pointer none, .agg #[.int .i64 a, .int .i64 hh], .int .i64 S, .int .i64 f, .int .i64 t] w fun e w' => e = .returned (.tuple #[.slice none 0 0, .int .i64 1]) ∧ Below w.heap.size w w' := by
  refine callsIn_of_wp_marks Try.func32 rfl trivial ?_ rfl
  simp only [Try.ntmps32, List.size_toArray, List.length_cons, List.length_nil, Nat.reduceAdd, Nat.reduceSub, Array.replicate_succ, Array.replicate_zero, List.push_toArray, List.append_toArray, List.nil_append, List.cons_append]
  gi_wp2
  obtain ⟨w6, hw6⟩ : ∃ w6, w6 = ((((((w.alloc (.cells #[.int .i64 a, .int .i64 hh] 63)).alloc (.cells #[.int .i64 S] 3)).alloc (.cells #[.int .i64 f] 2)).alloc (.cells #[.int .i64 t] 2)).alloc (.cells #[.slice none 0 0] 31)).alloc (.cells #[.int .i64 0] 28)) := ⟨_, rfl⟩
  have Z6 : Hid (w6.heap.size = w.heap.size + 6) := Lib.hid (by rw [hw6]; simp)
  have B6 : Hid (Below w.heap.size w w6) := Lib.hid (by rw [hw6]; exact ((((((Below.refl _ _).alloc (Nat.le_refl _) _).alloc (by simp) _).alloc (by simp; omega) _).alloc (by simp; omega) _).alloc (by simp; omega) _).alloc (by simp; omega) _)
  have G0 : Hid (w6.heap[w.heap.size]? = some (.cells #[.int .i64 a, .int .i64 hh] 63 (0, 0))) := Lib.hid (by
    rw [hw6]
    have h1 := heap_alloc_new w (.cells #[.int .i64 a, .int .i64 hh] 63)
    exact (row_stays (row_stays (row_stays (row_stays (row_stays h1 (alloc_bel rfl)) (alloc_bel rfl)) (alloc_bel rfl)) (alloc_bel rfl)) (alloc_bel rfl)))
  have G1 : Hid (w6.heap[w.heap.size + 1]? = some (.cells #[.int .i64 S] 3 (0, 0))) := Lib.hid (by
    rw [hw6]
    have h1 := heap_alloc_new (w.alloc (.cells #[.int .i64 a, .int .i64 hh] 63)) (.cells #[.int .i64 S] 3)
    rw [World.size_alloc] at h1
    exact (row_stays (row_stays (row_stays (row_stays h1 (alloc_bel rfl)) (alloc_bel rfl)) (alloc_bel rfl)) (alloc_bel rfl)))
  have G2 : Hid (w6.heap[w.heap.size + 1 + 1]? = some (.cells #[.int .i64 f] 2 (0, 0))) := Lib.hid (by
    rw [hw6]
    have h1 := heap_alloc_new ((w.alloc (.cells #[.int .i64 a, .int .i64 hh] 63)).alloc (.cells #[.int .i64 S] 3)) (.cells #[.int .i64 f] 2)
    rw [World.size_alloc, World.size_alloc] at h1
    exact (row_stays (row_stays (row_stays h1 (alloc_bel rfl)) (alloc_bel rfl)) (alloc_bel rfl)))
  have G3 : Hid (w6.heap[w.heap.size + 1 + 1 + 1]? = some (.cells #[.int .i64 t] 2 (0, 0))) := Lib.hid (by
    rw [hw6]
    have h1 := heap_alloc_new (((w.alloc (.cells #[.int .i64 a, .int .i64 hh] 63)).alloc (.cells #[.int .i64 S] 3)).alloc (.cells #[.int .i64 f] 2)) (.cells #[.int .i64 t] 2)
    rw [World.size_alloc, World.size_alloc, World.size_alloc] at h1
    exact (row_stays (row_stays h1 (alloc_bel rfl)) (alloc_bel rfl)))
  have G4 : Hid (w6.heap[w.heap.size + 1 + 1 + 1 + 1]? = some (.cells #[.slice none 0 0] 31 (0, 0))) := Lib.hid (by
    rw [hw6]
    have h1 := heap_alloc_new ((((w.alloc (.cells #[.int .i64 a, .int .i64 hh] 63)).alloc (.cells #[.int .i64 S] 3)).alloc (.cells #[.int .i64 f] 2)).alloc (.cells #[.int .i64 t] 2)) (.cells #[.slice none 0 0] 31)
    rw [World.size_alloc, World.size_alloc, World.size_alloc, World.size_alloc] at h1
    exact (row_stays h1 (alloc_bel rfl)))
  have G5 : Hid (w6.heap[w.heap.size + 1 + 1 + 1 + 1 + 1]? = some (.cells #[.int .i64 0] 28 (0, 0))) := Lib.hid (by
    rw [hw6]
    have h1 := heap_alloc_new (((((w.alloc (.cells #[.int .i64 a, .int .i64 hh] 63)).alloc (.cells #[.int .i64 S] 3)).alloc (.cells #[.int .i64 f] 2)).alloc (.cells #[.int .i64 t] 2)).alloc (.cells #[.slice none 0 0] 31)) (.cells #[.int .i64 0] 28)
    rw [World.size_alloc, World.size_alloc, World.size_alloc, World.size_alloc, World.size_alloc] at h1
    exact h1)
  have HW6 := Lib.hid hw6
  clear hw6
  rw [← HW6.out]
  refine ⟨trivial, (callsIn_wide.2 (refused_nil a hh w6)).mono ?_⟩
  rintro e w7 ⟨rfl, hb7⟩
  have E0 := Lib.hid (row_stays G0.out hb7)
  have E1 := Lib.hid (row_stays G1.out hb7)
  have E2 := Lib.hid (row_stays G2.out hb7)
  have E3 := Lib.hid (row_stays G3.out hb7)
  have E4 := Lib.hid (row_stays G4.out hb7)
  have E5 := Lib.hid (row_stays G5.out hb7)
  have B7 := Lib.hid (B6.out.trans (hb7.mono B6.out.size))
  have k2 : w7.cell? ⟨w.heap.size + 1 + 1, 0, none⟩ = some (.int .i64 f) := nd_cell E2.out 0 _ rfl
  have k3 : w7.cell? ⟨w.heap.size + 1 + 1 + 1, 0, none⟩ = some (.int .i64 t) := nd_cell E3.out 0 _ rfl
  clear hb7 G0 G1 G2 G3 G4 G5 HW6
  have h4 : Boxed w7 (w.heap.size + 1 + 1 + 1 + 1) 31 (.slice none 0 0) := E4.out
  have h5 : Boxed w7 (w.heap.size + 1 + 1 + 1 + 1 + 1) 28 (.int .i64 0) := E5.out
  have c4 := h4.cell
  have f4 := h4.frozen
  have c5 := h5.cell
  have f5 := h5.frozen
  have H4 := Lib.hid h4
  have H5 := Lib.hid h5
  clear h4 h5
  gi_wp2
  have r4 := Boxed.other (H4.out.set (.slice none 0 0)) (by omega : w.heap.size + 1 + 1 + 1 + 1 ≠ w.heap.size + 1 + 1 + 1 + 1 + 1) (.int .i64 1)
  have r5 := (Boxed.other H5.out (by omega : w.heap.size + 1 + 1 + 1 + 1 + 1 ≠ w.heap.size + 1 + 1 + 1 + 1) (.slice none 0 0)).set (.int .i64 1)
  refine ⟨.tuple #[.slice none 0 0, .int .i64 1], results_cellsA2 (p := 10) (q := 11) rfl _ _ ⟨w.heap.size + 1 + 1 + 1 + 1, 0, none⟩ ⟨w.heap.size + 1 + 1 + 1 + 1 + 1, 0, none⟩ _ _ rfl rfl (run_loadVar_one _ _ _ _ _ Try.underlying31 rfl r4.cell) (run_loadVar_one _ _ _ _ _ Try.underlying28 rfl r5.cell), rfl, ?_⟩
  exact (B7.out.setCell (p := ⟨w.heap.size + 1 + 1 + 1 + 1, 0, none⟩) (by show w.heap.size ≤ w.heap.size + 1 + 1 + 1 + 1; omega) _).setCell (p := ⟨w.heap.size + 1 + 1 + 1 + 1 + 1, 0, none⟩) (by show w.heap.size ≤ w.heap.size + 1 + 1 + 1 + 1 + 1; omega) _
end Go.Proofs.Ytgkddhncfaeidaa

namespace Go.Proofs.Ytgkddhncfaeidaa
open Go.RowKit Go.Shelf CrcM PageM
set_option linter.unusedVariables false
attribute [local go_sem] Oper.semAt_some

def zeroE : Value := .agg #[.int .i64 0, .int .i64 0, .int .i64 0, .int .i64 0, .int .i64 0, .int .i64 0, .int .i64 0, .int .u32 0]
set_option maxRecDepth 100000 in
theorem refused_high (gv : Nat) (a h : Int) (h5 : 5 < h) (w : World) :
    Calls Try.prog 57 #[.pointer (some ⟨gv, 0, none⟩), .agg #[.int .i64 a, .int .i64 h]] w fun e w' => e = .returned (.int .i64 1) ∧ Below w.heap.size w w' := by
  have d1 : decide (h < 0) = false := by simp; omega
  have d2 : decide (h > 5) = true := by simpa using h5
  go_enter Try.func57, Try.ntmps57
  go_wp2_with fail
  go_ret
  exact ⟨rfl, (Below.refl _ _).alloc (Nat.le_refl _) _⟩

set_option maxRecDepth 100000 in
set_option maxHeartbeats 4000000 in
theorem entries1_err (m gl gv n₀ B1 B2 : Nat) (a hh : Int) (h5 : 5 < hh) (C : World → Nat → Prop) :
    SeqT Fence.wide m Try.prog 82 #[.pointer (some ⟨B1, 0, none⟩), .pointer (some ⟨B2, 0, none⟩)] (fun _ : Unit => #[zeroE, .int .i64 1]) (TL n₀) (KpC n₀ C) (OkC n₀ C) (CcC C)
      (fun W => Lk W gl gv 0 ∧ W.heap[B1]? = some (.cells #[.pointer (some ⟨gl, 0, none⟩)] 152 (0, 0)) ∧ W.heap[B2]? = some (.cells #[.int .i64 a, .int .i64 hh] 63 (0, 0)))
      (fun xs _ => xs = [()]) (fun q _ => q = [()]) 1 := by
  rintro l J Jx W ⟨hlk, hb1, hb2⟩ hJT hOk hCc hY h0
  have hO := hOk _ _ h0
  have hCX : ∀ X, Below W.heap.size W X → TL n₀ W X := fun X hX => ⟨hX.mono hO.1, fun k o hk _ => (hX.block k (Array.getElem?_eq_some_iff.1 hk).1).trans hk⟩
  have HLK := Lib.hid hlk
  have HB1 := Lib.hid hb1
  have HB2 := Lib.hid hb2
  have HYY : Hid (∀ (q : Nat) (X : World), Below W.heap.size W X → YieldAt Fence.wide q Try.prog l #[zeroE, .int .i64 1] X fun e W' => (e = .returned (.bool true) ∧ J [()] W' ∧ KpC n₀ C X W') ∨ (e = .returned (.bool false) ∧ Jx [()] W' ∧ KpC n₀ C X W')) := Lib.hid (fun q X hX => yieldAny (hY [] () X (hJT _ _ _ h0 (hCX X hX)) (by simp)))
  clear hlk hb1 hb2 hJT hOk hCc hY h0 hCX hO
  refine callsIn_of_wp Try.func82 rfl trivial ?_ rfl
  simp only [Try.ntmps82, List.size_toArray, List.length_cons, List.length_nil, Nat.reduceAdd, Nat.reduceSub, Array.replicate_succ, Array.replicate_zero, List.push_toArray, List.append_toArray, List.nil_append, List.cons_append]
  gi_wp2
  refine wpIn_wide.2 ?_
  have g1 : ∀ y : SubW W.heap.size W, y.at_.cell? ⟨B1, 0, none⟩ = some (.pointer (some ⟨gl, 0, none⟩)) := fun y => nd_cell (row_stays HB1.out y.ok_) 0 _ rfl
  have g2 : ∀ y : SubW W.heap.size W, y.at_.cell? ⟨gl, 0, none⟩ = some (.pointer (some ⟨gv, 0, none⟩)) := fun y => nd_cell (row_stays HLK.out y.ok_) 0 _ rfl
  have g3 : ∀ y : SubW W.heap.size W, y.at_.heap[B2]? = some (.cells #[.int .i64 a, .int .i64 hh] 63 (0, 0)) := fun y => row_stays HB2.out y.ok_
  refine region_below W.heap.size W (Below.refl _ _) (by kernel_rfl) (by kernel_rfl) ?_
  repeat (first
    | (go_big_quiet_want; refine quiet_load_row 63 (.tmp 2) rfl B2 rfl 63 _ (0, 0) _ g3 Try.underlying63 rfl (by kernel_rfl) ?_; simp only [Act.put, List.setIfInBounds_toArray, List.set_cons_zero, List.set_cons_succ]; go_big_quiet_on)
    | go_big_quiet_step (first | (go_at_call 57; exact calls_sub (Nat.le_refl _) (refused_high gv a hh h5 _))))
  refine wpQuiet_nil ?_
  rintro w' ⟨y, rfl⟩
  have HYB := Lib.hid y.ok_
  clear g1 g2 g3
  obtain ⟨V0, hV0⟩ : ∃ V0, V0 = y.at_ := ⟨_, rfl⟩
  rw [← hV0] at HYB ⊢
  clear hV0
  obtain ⟨fn, tmps, assign, body, hy, hR⟩ := HYY.out (m - 1) V0 HYB.out
  dsimp only [zeroE] at hy
  gi_wp2
  refine ⟨fun h => (by cases h), hR.mono ?_⟩
  rintro e W3 (⟨rfl, hJ3, hk3⟩ | ⟨rfl, hJx3, hk3⟩)
  · have J3 := Lib.hid hJ3
    clear hJ3 hk3 hR hy
    gi_wp2
    exact bodyPost_ret (v := .tuple #[]) (results_none rfl _ _ _) rfl ⟨⟨_, rfl⟩, .inl ⟨[()], rfl, J3.out⟩⟩
  · have J3 := Lib.hid hJx3
    clear hJx3 hk3 hR hy
    gi_wp2
    exact bodyPost_ret (v := .tuple #[]) (results_none rfl _ _ _) rfl ⟨⟨_, rfl⟩, .inr ⟨[()], rfl, J3.out⟩⟩

set_option maxRecDepth 100000 in
set_option maxHeartbeats 4000000 in
theorem entriesF_err (m gv n₀ B1 B2 : Nat) (a hh : Int) (h5 : 5 < hh) (C : World → Nat → Prop) :
    SeqT Fence.wide m Try.prog 59 #[.pointer (some ⟨B1, 0, none⟩), .pointer (some ⟨B2, 0, none⟩)] (fun _ : Unit => #[zeroE, .int .i64 1]) (TL n₀) (KpC n₀ C) (OkC n₀ C) (CcC C)
      (fun W => W.heap[B1]? = some (.cells #[.pointer (some ⟨gv, 0, none⟩)] 61 (0, 0)) ∧ W.heap[B2]? = some (.cells #[.int .i64 a, .int .i64 hh] 63 (0, 0)))
      (fun xs _ => xs = [()]) (fun q _ => q = [()]) 1 := by
  rintro l J Jx W ⟨hb1, hb2⟩ hJT hOk hCc hY h0
  have hO := hOk _ _ h0
  have hCX : ∀ X, Below W.heap.size W X → TL n₀ W X := fun X hX => ⟨hX.mono hO.1, fun k o hk _ => (hX.block k (Array.getElem?_eq_some_iff.1 hk).1).trans hk⟩
  have HB1 := Lib.hid hb1
  have HB2 := Lib.hid hb2
  obtain ⟨gl, hgl⟩ : ∃ gl, gl = W.heap.size := ⟨_, rfl⟩
  obtain ⟨W1, hW1⟩ : ∃ W1, W1 = W.alloc (.cells #[.pointer (some ⟨gv, 0, none⟩), .int .i64 0] 121) := ⟨_, rfl⟩
  have B01 := Lib.hid (alloc_bel hW1)
  have L1 : Hid (Lk W1 gl gv 0) := Lib.hid (by rw [hW1, hgl]; exact heap_alloc_new _ _)
  have R1 : Hid (W1.heap[B2]? = some (.cells #[.int .i64 a, .int .i64 hh] 63 (0, 0))) := Lib.hid (row_stays hb2 B01.out)
  have HGL := Lib.hid hgl
  have HW1 := Lib.hid hW1
  have HRUN : Hid (∀ (q : Nat) (W2 : World), W2 = (W1.alloc (.cells #[.pointer (some ⟨gl, 0, none⟩)] 152)).alloc (.cells #[.int .i64 a, .int .i64 hh] 63) → CallsIn Fence.wide q Try.prog 82 (#[.func (.yield l) #[] #[]] ++ #[.pointer (some ⟨W1.heap.size, 0, none⟩), .pointer (some ⟨W1.heap.size + 1, 0, none⟩)]) W2 fun e W' => (∃ v, e = .returned v) ∧ ((∃ xs, xs = [()] ∧ J xs W') ∨ ∃ pre, pre = [()] ∧ Jx pre W')) := Lib.hid (fun q W2 hW2 => by
    have hB12 : Below W1.heap.size W1 W2 := by rw [hW2]; exact ((Below.refl _ _).alloc (Nat.le_refl _) _).alloc (by simp) _
    have hB02 : Below W.heap.size W W2 := B01.out.trans (hB12.mono B01.out.size)
    have x1 : W2.heap[W1.heap.size]? = some (.cells #[.pointer (some ⟨gl, 0, none⟩)] 152 (0, 0)) := by rw [hW2]; exact row_stays (heap_alloc_new _ _) (alloc_bel rfl)
    have x2 : W2.heap[W1.heap.size + 1]? = some (.cells #[.int .i64 a, .int .i64 hh] 63 (0, 0)) := by
      rw [hW2]
      have h1 := heap_alloc_new (W1.alloc (.cells #[.pointer (some ⟨gl, 0, none⟩)] 152)) (.cells #[.int .i64 a, .int .i64 hh] 63)
      rw [World.size_alloc] at h1
      exact h1
    exact entries1_err q gl gv n₀ W1.heap.size (W1.heap.size + 1) a hh h5 C l J Jx W2 ⟨row_stays L1.out hB12, x1, x2⟩ hJT hOk hCc (fun pre x Wz hj hl => yieldAny (hY pre x Wz hj hl)) (hJT _ _ _ h0 (hCX W2 hB02)))
  clear hb1 hb2 hJT hOk hCc hY h0 hCX hO hgl hW1
  have k1 := nd_cell HB1.out 0 (.pointer (some ⟨gv, 0, none⟩)) rfl
  refine callsIn_of_wp Try.func59 rfl trivial ?_ rfl
  simp only [Try.ntmps59, List.size_toArray, List.length_cons, List.length_nil, Nat.reduceAdd, Nat.reduceSub, Array.replicate_succ, Array.replicate_zero, List.push_toArray, List.append_toArray, List.nil_append, List.cons_append]
  gi_wp2_with (first
    | (refine wideIn_store_row rfl 121 (.tmp 4) (.tmp 6) rfl W.heap.size #[.pointer (some ⟨gv, 0, none⟩), .int .i64 0] rfl rfl 121 _ (heap_alloc_new _ _) (by kernel_rfl) rfl (by simp [Value.oneCell']) ?_; rw [World.setRow_alloc_new, ← HW1.out, ← HGL.out])
    | (refine wideIn_load_row rfl 63 (.tmp 2) rfl B2 rfl 63 _ (0, 0) _ R1.out Try.underlying63 rfl (by kernel_rfl) ?_))
  refine ⟨trivial, fun h => (by cases h), (entries_mk _ gl a hh W1).mono ?_⟩
  rintro e W2 ⟨rfl, hw2⟩
  have HW2 := Lib.hid hw2
  clear hw2
  gi_wp2
  refine ⟨trivial, fun h => (by cases h), (HRUN.out _ W2 HW2.out).mono ?_⟩
  rintro e W3 ⟨⟨v, rfl⟩, h⟩
  gi_wp2
  go_end0
  exact ⟨⟨_, rfl⟩, h⟩
end Go.Proofs.Ytgkddhncfaeidaa
