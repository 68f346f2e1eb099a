/- NodeLess: its walk. -/
import Derived.Test.YtcjdmlhkomgkcaaNdSm
import Derived.Test.YtcjdmlhkomgkcaaWays3
import Derived.Deep.DeepCutAuto
namespace Go.Proofs.Ytcjdmlhkomgkcaa
open Go.ChangeShapes Go.WideShapes Go.ChangeAt Go.RowKit CrcM PageM
set_option linter.unusedVariables false

def ltK (s t s' t' : Int) : Bool := decide (s < s' ∨ s = s' ∧ t < t')
theorem less_l (s t s' t' : Int) (l : Bool) (hl : ltK s t s' t' = l) (w : World) :
    Calls Try.prog 58 #[.agg #[.int .i64 s, .int .i64 t], .agg #[.int .i64 s', .int .i64 t']] w fun e w' => e = .returned (.bool l) ∧ Below w.heap.size w w' := by subst hl; exact less_nd s t s' t' w

theorem row_kept {wc w : World} {p : Nat} {o : Obj} (h : wc.heap[p]? = some o) (hb : Below wc.heap.size wc w) : w.heap[p]? = some o := (hb.block p (Array.getElem?_eq_some_iff.1 h).1).trans h

theorem key_cells {w wc : World} {p : Nat} {x y : Value} {t : TypeId} (h : wc.heap[p]? = some (.cells #[x, y] t (0, 0))) (hb : Below wc.heap.size wc w) : w.cell? ⟨p, 0, none⟩ = some x ∧ w.cell? ⟨p, 1, none⟩ = some y :=
  ⟨nd_cell (row_kept h hb) 0 _ rfl, nd_cell (row_kept h hb) 1 _ rfl⟩

set_option maxHeartbeats 2000000 in
set_option maxRecDepth 100000 in
theorem nodeLess_cut (a0 a1 b0 b1 c0 c1 : Int) (l1 l2 l3 l4 : Bool) (h1 : ltK a0 a1 b0 b1 = l1) (h2 : ltK b0 b1 a0 a1 = l2) (h3 : ltK b0 b1 c0 c1 = l3) (h4 : ltK a0 a1 c0 c1 = l4)
    (hor : (l1 = true ∧ l2 = false ∧ (¬ a0 = b0 ∨ a0 = b0 ∧ ¬ a1 = b1) ∧ (l3 = false ∨ l3 = true ∧ l4 = true)) ∨ (l1 = false ∧ l2 = true ∧ (¬ a0 = b0 ∨ a0 = b0 ∧ ¬ a1 = b1)) ∨ (l1 = false ∧ l2 = false ∧ a0 = b0 ∧ a1 = b1)) {w : World} :
    Calls Try.prog 12 #[.agg #[.int .i64 a0, .int .i64 a1], .agg #[.int .i64 b0, .int .i64 b1], .agg #[.int .i64 c0, .int .i64 c1]] w fun e w' => e = .returned (.bool true) ∧ Below w.heap.size w w' := by
  have H1 := Lib.hid h1
  have H2 := Lib.hid h2
  have H3 := Lib.hid h3
  have H4 := Lib.hid h4
  clear h1 h2 h3 h4
  go_enter Try.func12, Try.ntmps12
  go_upto_region 1 with fail
  have hb0 : Below w.heap.size w (((w.alloc (.cells #[.int .i64 a0, .int .i64 a1] 113)).alloc (.cells #[.int .i64 b0, .int .i64 b1] 113)).alloc (.cells #[.int .i64 c0, .int .i64 c1] 113)) := (((Below.refl _ _).alloc (Nat.le_refl _) _).alloc (by simp) _).alloc (by simp; omega) _
  have hq0 := heap_alloc2_old w (.cells #[.int .i64 a0, .int .i64 a1] 113) (.cells #[.int .i64 b0, .int .i64 b1] 113)
  have hq1 := heap_alloc2_new w (.cells #[.int .i64 a0, .int .i64 a1] 113) (.cells #[.int .i64 b0, .int .i64 b1] 113)
  have h0 := (Below.heap_alloc _ (.cells #[.int .i64 c0, .int .i64 c1] 113) w.heap.size (by simp; omega)).trans hq0
  have h1 := (Below.heap_alloc _ (.cells #[.int .i64 c0, .int .i64 c1] 113) (w.heap.size + 1) (by simp)).trans hq1
  have h2 : (((w.alloc (.cells #[.int .i64 a0, .int .i64 a1] 113)).alloc (.cells #[.int .i64 b0, .int .i64 b1] 113)).alloc (.cells #[.int .i64 c0, .int .i64 c1] 113)).heap[w.heap.size + 1 + 1]? = some (.cells #[.int .i64 c0, .int .i64 c1] 113 (0, 0)) := by
    have := heap_alloc_new ((w.alloc (.cells #[.int .i64 a0, .int .i64 a1] 113)).alloc (.cells #[.int .i64 b0, .int .i64 b1] 113)) (.cells #[.int .i64 c0, .int .i64 c1] 113)
    simpa using this
  have hsz : (((w.alloc (.cells #[.int .i64 a0, .int .i64 a1] 113)).alloc (.cells #[.int .i64 b0, .int .i64 b1] 113)).alloc (.cells #[.int .i64 c0, .int .i64 c1] 113)).heap.size = w.heap.size + 3 := by simp
  generalize ((w.alloc (.cells #[.int .i64 a0, .int .i64 a1] 113)).alloc (.cells #[.int .i64 b0, .int .i64 b1] 113)).alloc (.cells #[.int .i64 c0, .int .i64 c1] 113) = W at *
  have ca0 := nd_cell h0 0 _ rfl
  have ca1 := nd_cell h0 1 _ rfl
  have cb0 := nd_cell h1 0 _ rfl
  have cb1 := nd_cell h1 1 _ rfl
  have cc0 := nd_cell h2 0 _ rfl
  have cc1 := nd_cell h2 1 _ rfl
  clear hq0 hq1 h0 h1 h2
  generalize hA : w.heap.size = nA at *
  generalize hB : nA + 1 = nB at *
  generalize hC : nB + 1 = nC at *
  have la : nA < W.heap.size := by omega
  have lb : nB < W.heap.size := by omega
  have lc : nC < W.heap.size := by omega
  have HA := Lib.hid hA
  clear hA hB hC
  go_cut [7, 8, 9] (fun s7 s8 s9 wx => ∃ p q r, s7 = .pointer (some ⟨p, 0, none⟩) ∧ s8 = .pointer (some ⟨q, 0, none⟩) ∧ s9 = .pointer (some ⟨r, 0, none⟩) ∧ wx.heap[p]? = some (.cells #[.int .i64 a0, .int .i64 a1] 99 (0, 0)) ∧ wx.heap[q]? = some (.cells #[.int .i64 b0, .int .i64 b1] 99 (0, 0)) ∧ wx.heap[r]? = some (.cells #[.int .i64 c0, .int .i64 c1] 99 (0, 0)) ∧ Below W.heap.size W wx)
  case first =>
    refine region_ways3 W.heap.size (Nat.le_refl _) (.three [0, 1, 2, 3, 4, 5, 6, 7, 8, 9, 10, 11, 12, 13, 14] 15 (.two [] 16 (.one [] 17 (.one [] 18 (.one [] 19 (.one [] 20 (.done []))))) 17 (.one [] 16 (.one [] 18 (.one [] 19 (.one [] 20 (.done [])))))) 16 (.two [] 15 (.one [] 17 (.one [] 18 (.one [] 19 (.one [] 20 (.done []))))) 17 (.one [] 15 (.one [] 18 (.one [] 19 (.one [] 20 (.done [])))))) 17 (.two [] 15 (.one [] 16 (.one [] 18 (.one [] 19 (.one [] 20 (.done []))))) 16 (.one [] 15 (.one [] 18 (.one [] 19 (.one [] 20 (.done []))))))) (by kernel_rfl) (by kernel_rfl) ?_
    rintro w0 hbd
    have bb0 : Below W.heap.size W w0 := hbd
    have kca0 : ∀ y : SubW W.heap.size W, y.at_.cell? ⟨nA, 0, none⟩ = some _ := fun y => (y.ok_.cell (p := ⟨nA, 0, none⟩) la).trans ca0
    have kca1 : ∀ y : SubW W.heap.size W, y.at_.cell? ⟨nA, 1, none⟩ = some _ := fun y => (y.ok_.cell (p := ⟨nA, 1, none⟩) la).trans ca1
    have kcb0 : ∀ y : SubW W.heap.size W, y.at_.cell? ⟨nB, 0, none⟩ = some _ := fun y => (y.ok_.cell (p := ⟨nB, 0, none⟩) lb).trans cb0
    have kcb1 : ∀ y : SubW W.heap.size W, y.at_.cell? ⟨nB, 1, none⟩ = some _ := fun y => (y.ok_.cell (p := ⟨nB, 1, none⟩) lb).trans cb1
    have kcc0 : ∀ y : SubW W.heap.size W, y.at_.cell? ⟨nC, 0, none⟩ = some _ := fun y => (y.ok_.cell (p := ⟨nC, 0, none⟩) lc).trans cc0
    have kcc1 : ∀ y : SubW W.heap.size W, y.at_.cell? ⟨nC, 1, none⟩ = some _ := fun y => (y.ok_.cell (p := ⟨nC, 1, none⟩) lc).trans cc1
    rw [wpWays_three3]
    try simp only [List.map_cons, List.map_nil, opAt, List.getElem?_toArray, List.getElem?_cons_zero, List.getElem?_cons_succ, Option.getD_some]
    repeat (go_big_quiet_step (fail))
    refine wpQuiet_nil ⟨?_, ?_, ?_⟩
    · go_wp2_with fail
      have bb1 : Below W.heap.size W (w0.alloc (.cells #[.int .i64 0, .int .i64 0] 99)) := bb0.alloc bb0.size _
      have e0_w1 : (w0.alloc (.cells #[.int .i64 0, .int .i64 0] 99)).heap[w0.heap.size]? = _ := heap_alloc_new w0 _
      have l0 : W.heap.size ≤ w0.heap.size := bb0.size
      refine ⟨⟨⟨_, bb1⟩, rfl⟩, ?_⟩
      try simp only [Act.put, List.setIfInBounds_toArray, List.set_cons_zero, List.set_cons_succ]
      generalize w0.alloc (.cells #[.int .i64 0, .int .i64 0] 99) = w1 at *
      generalize hp0 : w0.heap.size = p0 at *
      rw [wpWays_two3]
      try simp only [List.map_nil, opAt, List.getElem?_toArray, List.getElem?_cons_zero, List.getElem?_cons_succ, Option.getD_some]
      repeat (go_big_quiet_step (fail))
      refine wpQuiet_nil ⟨?_, ?_⟩
      · go_wp2_with fail
        have bb2 : Below W.heap.size W (w1.alloc (.cells #[.int .i64 0, .int .i64 0] 99)) := bb1.alloc bb1.size _
        have e1_w2 : (w1.alloc (.cells #[.int .i64 0, .int .i64 0] 99)).heap[w1.heap.size]? = _ := heap_alloc_new w1 _
        have e0_w2 := (Below.heap_alloc w1 (.cells #[.int .i64 0, .int .i64 0] 99) p0 (Array.getElem?_eq_some_iff.1 e0_w1).1).trans e0_w1
        have n01 : p0 < w1.heap.size := (Array.getElem?_eq_some_iff.1 e0_w1).1
        have l1 : W.heap.size ≤ w1.heap.size := bb1.size
        refine ⟨⟨⟨_, bb2⟩, rfl⟩, ?_⟩
        try simp only [Act.put, List.setIfInBounds_toArray, List.set_cons_zero, List.set_cons_succ]
        generalize w1.alloc (.cells #[.int .i64 0, .int .i64 0] 99) = w2 at *
        generalize hp1 : w1.heap.size = p1 at *
        rw [wpWays_one3]
        try simp only [List.map_nil, opAt, List.getElem?_toArray, List.getElem?_cons_zero, List.getElem?_cons_succ, Option.getD_some]
        repeat (go_big_quiet_step (fail))
        refine wpQuiet_nil ?_
        go_wp2_with fail
        have bb3 : Below W.heap.size W (w2.alloc (.cells #[.int .i64 0, .int .i64 0] 99)) := bb2.alloc bb2.size _
        have e2_w3 : (w2.alloc (.cells #[.int .i64 0, .int .i64 0] 99)).heap[w2.heap.size]? = _ := heap_alloc_new w2 _
        have e0_w3 := (Below.heap_alloc w2 (.cells #[.int .i64 0, .int .i64 0] 99) p0 (Array.getElem?_eq_some_iff.1 e0_w2).1).trans e0_w2
        have e1_w3 := (Below.heap_alloc w2 (.cells #[.int .i64 0, .int .i64 0] 99) p1 (Array.getElem?_eq_some_iff.1 e1_w2).1).trans e1_w2
        have n02 : p0 < w2.heap.size := (Array.getElem?_eq_some_iff.1 e0_w2).1
        have n12 : p1 < w2.heap.size := (Array.getElem?_eq_some_iff.1 e1_w2).1
        have l2 : W.heap.size ≤ w2.heap.size := bb2.size
        refine ⟨⟨⟨_, bb3⟩, rfl⟩, ?_⟩
        try simp only [Act.put, List.setIfInBounds_toArray, List.set_cons_zero, List.set_cons_succ]
        generalize w2.alloc (.cells #[.int .i64 0, .int .i64 0] 99) = w3 at *
        generalize hp2 : w2.heap.size = p2 at *
        rw [wpWays_one3]
        try simp only [List.map_nil, opAt, List.getElem?_toArray, List.getElem?_cons_zero, List.getElem?_cons_succ, Option.getD_some]
        repeat (go_big_quiet_step (fail))
        refine wpQuiet_nil ?_
        go_wp2_with (refine wpList_store_row rfl 99 (.tmp 7) (.tmp 15) rfl p0 #[.int .i64 a0, .int .i64 a1] rfl rfl 99 #[.int .i64 0, .int .i64 0] e0_w3 (by kernel_rfl) (by kernel_rfl) (by kernel_rfl) ?_)
        have e0_w4 := setRow_heap w3 p0 _ #[.int .i64 a0, .int .i64 a1] _ _ e0_w3
        have e1_w4 := (setRow_other w3 p0 p1 #[.int .i64 a0, .int .i64 a1] (by omega)).trans e1_w3
        have e2_w4 := (setRow_other w3 p0 p2 #[.int .i64 a0, .int .i64 a1] (by omega)).trans e2_w3
        have bb4 : Below W.heap.size W (w3.setRow p0 #[.int .i64 a0, .int .i64 a1]) := bb3.trans ⟨rfl, rfl, rfl, by simp, fun k hk => setRow_other _ _ _ _ (by omega)⟩
        refine ⟨⟨⟨_, bb4⟩, rfl⟩, ?_⟩
        try simp only [Act.put]
        generalize w3.setRow p0 #[.int .i64 a0, .int .i64 a1] = w4 at *
        rw [wpWays_one3]
        try simp only [List.map_nil, opAt, List.getElem?_toArray, List.getElem?_cons_zero, List.getElem?_cons_succ, Option.getD_some]
        repeat (go_big_quiet_step (fail))
        refine wpQuiet_nil ?_
        go_wp2_with (refine wpList_store_row rfl 99 (.tmp 8) (.tmp 20) rfl p1 #[.int .i64 b0, .int .i64 b1] rfl rfl 99 #[.int .i64 0, .int .i64 0] e1_w4 (by kernel_rfl) (by kernel_rfl) (by kernel_rfl) ?_)
        have e0_w5 := (setRow_other w4 p1 p0 #[.int .i64 b0, .int .i64 b1] (by omega)).trans e0_w4
        have e1_w5 := setRow_heap w4 p1 _ #[.int .i64 b0, .int .i64 b1] _ _ e1_w4
        have e2_w5 := (setRow_other w4 p1 p2 #[.int .i64 b0, .int .i64 b1] (by omega)).trans e2_w4
        have bb5 : Below W.heap.size W (w4.setRow p1 #[.int .i64 b0, .int .i64 b1]) := bb4.trans ⟨rfl, rfl, rfl, by simp, fun k hk => setRow_other _ _ _ _ (by omega)⟩
        refine ⟨⟨⟨_, bb5⟩, rfl⟩, ?_⟩
        try simp only [Act.put]
        generalize w4.setRow p1 #[.int .i64 b0, .int .i64 b1] = w5 at *
        rw [wpWays_one3]
        try simp only [List.map_nil, opAt, List.getElem?_toArray, List.getElem?_cons_zero, List.getElem?_cons_succ, Option.getD_some]
        repeat (go_big_quiet_step (fail))
        refine wpQuiet_nil ?_
        go_wp2_with (refine wpList_store_row rfl 99 (.tmp 9) (.tmp 25) rfl p2 #[.int .i64 c0, .int .i64 c1] rfl rfl 99 #[.int .i64 0, .int .i64 0] e2_w5 (by kernel_rfl) (by kernel_rfl) (by kernel_rfl) ?_)
        have e0_w6 := (setRow_other w5 p2 p0 #[.int .i64 c0, .int .i64 c1] (by omega)).trans e0_w5
        have e1_w6 := (setRow_other w5 p2 p1 #[.int .i64 c0, .int .i64 c1] (by omega)).trans e1_w5
        have e2_w6 := setRow_heap w5 p2 _ #[.int .i64 c0, .int .i64 c1] _ _ e2_w5
        have bb6 : Below W.heap.size W (w5.setRow p2 #[.int .i64 c0, .int .i64 c1]) := bb5.trans ⟨rfl, rfl, rfl, by simp, fun k hk => setRow_other _ _ _ _ (by omega)⟩
        refine ⟨⟨⟨_, bb6⟩, rfl⟩, ?_⟩
        try simp only [Act.put]
        generalize w5.setRow p2 #[.int .i64 c0, .int .i64 c1] = w6 at *
        rw [wpWays_done3]
        try simp only [List.map_nil]
        repeat (go_big_quiet_step (fail))
        refine wpQuiet_nil ?_
        go_wp2_with fail
        go_meet
        exact ⟨p0, p1, p2, rfl, rfl, rfl, e0_w6, e1_w6, e2_w6, bb6⟩
      · go_wp2_with fail
        have bb2 : Below W.heap.size W (w1.alloc (.cells #[.int .i64 0, .int .i64 0] 99)) := bb1.alloc bb1.size _
        have e1_w2 : (w1.alloc (.cells #[.int .i64 0, .int .i64 0] 99)).heap[w1.heap.size]? = _ := heap_alloc_new w1 _
        have e0_w2 := (Below.heap_alloc w1 (.cells #[.int .i64 0, .int .i64 0] 99) p0 (Array.getElem?_eq_some_iff.1 e0_w1).1).trans e0_w1
        have n01 : p0 < w1.heap.size := (Array.getElem?_eq_some_iff.1 e0_w1).1
        have l1 : W.heap.size ≤ w1.heap.size := bb1.size
        refine ⟨⟨⟨_, bb2⟩, rfl⟩, ?_⟩
        try simp only [Act.put, List.setIfInBounds_toArray, List.set_cons_zero, List.set_cons_succ]
        generalize w1.alloc (.cells #[.int .i64 0, .int .i64 0] 99) = w2 at *
        generalize hp1 : w1.heap.size = p1 at *
        rw [wpWays_one3]
        try simp only [List.map_nil, opAt, List.getElem?_toArray, List.getElem?_cons_zero, List.getElem?_cons_succ, Option.getD_some]
        repeat (go_big_quiet_step (fail))
        refine wpQuiet_nil ?_
        go_wp2_with fail
        have bb3 : Below W.heap.size W (w2.alloc (.cells #[.int .i64 0, .int .i64 0] 99)) := bb2.alloc bb2.size _
        have e2_w3 : (w2.alloc (.cells #[.int .i64 0, .int .i64 0] 99)).heap[w2.heap.size]? = _ := heap_alloc_new w2 _
        have e0_w3 := (Below.heap_alloc w2 (.cells #[.int .i64 0, .int .i64 0] 99) p0 (Array.getElem?_eq_some_iff.1 e0_w2).1).trans e0_w2
        have e1_w3 := (Below.heap_alloc w2 (.cells #[.int .i64 0, .int .i64 0] 99) p1 (Array.getElem?_eq_some_iff.1 e1_w2).1).trans e1_w2
        have n02 : p0 < w2.heap.size := (Array.getElem?_eq_some_iff.1 e0_w2).1
        have n12 : p1 < w2.heap.size := (Array.getElem?_eq_some_iff.1 e1_w2).1
        have l2 : W.heap.size ≤ w2.heap.size := bb2.size
        refine ⟨⟨⟨_, bb3⟩, rfl⟩, ?_⟩
        try simp only [Act.put, List.setIfInBounds_toArray, List.set_cons_zero, List.set_cons_succ]
        generalize w2.alloc (.cells #[.int .i64 0, .int .i64 0] 99) = w3 at *
        generalize hp2 : w2.heap.size = p2 at *
        rw [wpWays_one3]
        try simp only [List.map_nil, opAt, List.getElem?_toArray, List.getElem?_cons_zero, List.getElem?_cons_succ, Option.getD_some]
        repeat (go_big_quiet_step (fail))
        refine wpQuiet_nil ?_
        go_wp2_with (refine wpList_store_row rfl 99 (.tmp 7) (.tmp 15) rfl p0 #[.int .i64 a0, .int .i64 a1] rfl rfl 99 #[.int .i64 0, .int .i64 0] e0_w3 (by kernel_rfl) (by kernel_rfl) (by kernel_rfl) ?_)
        have e0_w4 := setRow_heap w3 p0 _ #[.int .i64 a0, .int .i64 a1] _ _ e0_w3
        have e2_w4 := (setRow_other w3 p0 p2 #[.int .i64 a0, .int .i64 a1] (by omega)).trans e2_w3
        have e1_w4 := (setRow_other w3 p0 p1 #[.int .i64 a0, .int .i64 a1] (by omega)).trans e1_w3
        have bb4 : Below W.heap.size W (w3.setRow p0 #[.int .i64 a0, .int .i64 a1]) := bb3.trans ⟨rfl, rfl, rfl, by simp, fun k hk => setRow_other _ _ _ _ (by omega)⟩
        refine ⟨⟨⟨_, bb4⟩, rfl⟩, ?_⟩
        try simp only [Act.put]
        generalize w3.setRow p0 #[.int .i64 a0, .int .i64 a1] = w4 at *
        rw [wpWays_one3]
        try simp only [List.map_nil, opAt, List.getElem?_toArray, List.getElem?_cons_zero, List.getElem?_cons_succ, Option.getD_some]
        repeat (go_big_quiet_step (fail))
        refine wpQuiet_nil ?_
        go_wp2_with (refine wpList_store_row rfl 99 (.tmp 8) (.tmp 20) rfl p2 #[.int .i64 b0, .int .i64 b1] rfl rfl 99 #[.int .i64 0, .int .i64 0] e2_w4 (by kernel_rfl) (by kernel_rfl) (by kernel_rfl) ?_)
        have e0_w5 := (setRow_other w4 p2 p0 #[.int .i64 b0, .int .i64 b1] (by omega)).trans e0_w4
        have e2_w5 := setRow_heap w4 p2 _ #[.int .i64 b0, .int .i64 b1] _ _ e2_w4
        have e1_w5 := (setRow_other w4 p2 p1 #[.int .i64 b0, .int .i64 b1] (by omega)).trans e1_w4
        have bb5 : Below W.heap.size W (w4.setRow p2 #[.int .i64 b0, .int .i64 b1]) := bb4.trans ⟨rfl, rfl, rfl, by simp, fun k hk => setRow_other _ _ _ _ (by omega)⟩
        refine ⟨⟨⟨_, bb5⟩, rfl⟩, ?_⟩
        try simp only [Act.put]
        generalize w4.setRow p2 #[.int .i64 b0, .int .i64 b1] = w5 at *
        rw [wpWays_one3]
        try simp only [List.map_nil, opAt, List.getElem?_toArray, List.getElem?_cons_zero, List.getElem?_cons_succ, Option.getD_some]
        repeat (go_big_quiet_step (fail))
        refine wpQuiet_nil ?_
        go_wp2_with (refine wpList_store_row rfl 99 (.tmp 9) (.tmp 25) rfl p1 #[.int .i64 c0, .int .i64 c1] rfl rfl 99 #[.int .i64 0, .int .i64 0] e1_w5 (by kernel_rfl) (by kernel_rfl) (by kernel_rfl) ?_)
        have e0_w6 := (setRow_other w5 p1 p0 #[.int .i64 c0, .int .i64 c1] (by omega)).trans e0_w5
        have e2_w6 := (setRow_other w5 p1 p2 #[.int .i64 c0, .int .i64 c1] (by omega)).trans e2_w5
        have e1_w6 := setRow_heap w5 p1 _ #[.int .i64 c0, .int .i64 c1] _ _ e1_w5
        have bb6 : Below W.heap.size W (w5.setRow p1 #[.int .i64 c0, .int .i64 c1]) := bb5.trans ⟨rfl, rfl, rfl, by simp, fun k hk => setRow_other _ _ _ _ (by omega)⟩
        refine ⟨⟨⟨_, bb6⟩, rfl⟩, ?_⟩
        try simp only [Act.put]
        generalize w5.setRow p1 #[.int .i64 c0, .int .i64 c1] = w6 at *
        rw [wpWays_done3]
        try simp only [List.map_nil]
        repeat (go_big_quiet_step (fail))
        refine wpQuiet_nil ?_
        go_wp2_with fail
        go_meet
        exact ⟨p0, p2, p1, rfl, rfl, rfl, e0_w6, e2_w6, e1_w6, bb6⟩
    · go_wp2_with fail
      have bb1 : Below W.heap.size W (w0.alloc (.cells #[.int .i64 0, .int .i64 0] 99)) := bb0.alloc bb0.size _
      have e0_w1 : (w0.alloc (.cells #[.int .i64 0, .int .i64 0] 99)).heap[w0.heap.size]? = _ := heap_alloc_new w0 _
      have l0 : W.heap.size ≤ w0.heap.size := bb0.size
      refine ⟨⟨⟨_, bb1⟩, rfl⟩, ?_⟩
      try simp only [Act.put, List.setIfInBounds_toArray, List.set_cons_zero, List.set_cons_succ]
      generalize w0.alloc (.cells #[.int .i64 0, .int .i64 0] 99) = w1 at *
      generalize hp0 : w0.heap.size = p0 at *
      rw [wpWays_two3]
      try simp only [List.map_nil, opAt, List.getElem?_toArray, List.getElem?_cons_zero, List.getElem?_cons_succ, Option.getD_some]
      repeat (go_big_quiet_step (fail))
      refine wpQuiet_nil ⟨?_, ?_⟩
      · go_wp2_with fail
        have bb2 : Below W.heap.size W (w1.alloc (.cells #[.int .i64 0, .int .i64 0] 99)) := bb1.alloc bb1.size _
        have e1_w2 : (w1.alloc (.cells #[.int .i64 0, .int .i64 0] 99)).heap[w1.heap.size]? = _ := heap_alloc_new w1 _
        have e0_w2 := (Below.heap_alloc w1 (.cells #[.int .i64 0, .int .i64 0] 99) p0 (Array.getElem?_eq_some_iff.1 e0_w1).1).trans e0_w1
        have n01 : p0 < w1.heap.size := (Array.getElem?_eq_some_iff.1 e0_w1).1
        have l1 : W.heap.size ≤ w1.heap.size := bb1.size
        refine ⟨⟨⟨_, bb2⟩, rfl⟩, ?_⟩
        try simp only [Act.put, List.setIfInBounds_toArray, List.set_cons_zero, List.set_cons_succ]
        generalize w1.alloc (.cells #[.int .i64 0, .int .i64 0] 99) = w2 at *
        generalize hp1 : w1.heap.size = p1 at *
        rw [wpWays_one3]
        try simp only [List.map_nil, opAt, List.getElem?_toArray, List.getElem?_cons_zero, List.getElem?_cons_succ, Option.getD_some]
        repeat (go_big_quiet_step (fail))
        refine wpQuiet_nil ?_
        go_wp2_with fail
        have bb3 : Below W.heap.size W (w2.alloc (.cells #[.int .i64 0, .int .i64 0] 99)) := bb2.alloc bb2.size _
        have e2_w3 : (w2.alloc (.cells #[.int .i64 0, .int .i64 0] 99)).heap[w2.heap.size]? = _ := heap_alloc_new w2 _
        have e0_w3 := (Below.heap_alloc w2 (.cells #[.int .i64 0, .int .i64 0] 99) p0 (Array.getElem?_eq_some_iff.1 e0_w2).1).trans e0_w2
        have e1_w3 := (Below.heap_alloc w2 (.cells #[.int .i64 0, .int .i64 0] 99) p1 (Array.getElem?_eq_some_iff.1 e1_w2).1).trans e1_w2
        have n02 : p0 < w2.heap.size := (Array.getElem?_eq_some_iff.1 e0_w2).1
        have n12 : p1 < w2.heap.size := (Array.getElem?_eq_some_iff.1 e1_w2).1
        have l2 : W.heap.size ≤ w2.heap.size := bb2.size
        refine ⟨⟨⟨_, bb3⟩, rfl⟩, ?_⟩
        try simp only [Act.put, List.setIfInBounds_toArray, List.set_cons_zero, List.set_cons_succ]
        generalize w2.alloc (.cells #[.int .i64 0, .int .i64 0] 99) = w3 at *
        generalize hp2 : w2.heap.size = p2 at *
        rw [wpWays_one3]
        try simp only [List.map_nil, opAt, List.getElem?_toArray, List.getElem?_cons_zero, List.getElem?_cons_succ, Option.getD_some]
        repeat (go_big_quiet_step (fail))
        refine wpQuiet_nil ?_
        go_wp2_with (refine wpList_store_row rfl 99 (.tmp 7) (.tmp 15) rfl p1 #[.int .i64 a0, .int .i64 a1] rfl rfl 99 #[.int .i64 0, .int .i64 0] e1_w3 (by kernel_rfl) (by kernel_rfl) (by kernel_rfl) ?_)
        have e1_w4 := setRow_heap w3 p1 _ #[.int .i64 a0, .int .i64 a1] _ _ e1_w3
        have e0_w4 := (setRow_other w3 p1 p0 #[.int .i64 a0, .int .i64 a1] (by omega)).trans e0_w3
        have e2_w4 := (setRow_other w3 p1 p2 #[.int .i64 a0, .int .i64 a1] (by omega)).trans e2_w3
        have bb4 : Below W.heap.size W (w3.setRow p1 #[.int .i64 a0, .int .i64 a1]) := bb3.trans ⟨rfl, rfl, rfl, by simp, fun k hk => setRow_other _ _ _ _ (by omega)⟩
        refine ⟨⟨⟨_, bb4⟩, rfl⟩, ?_⟩
        try simp only [Act.put]
        generalize w3.setRow p1 #[.int .i64 a0, .int .i64 a1] = w4 at *
        rw [wpWays_one3]
        try simp only [List.map_nil, opAt, List.getElem?_toArray, List.getElem?_cons_zero, List.getElem?_cons_succ, Option.getD_some]
        repeat (go_big_quiet_step (fail))
        refine wpQuiet_nil ?_
        go_wp2_with (refine wpList_store_row rfl 99 (.tmp 8) (.tmp 20) rfl p0 #[.int .i64 b0, .int .i64 b1] rfl rfl 99 #[.int .i64 0, .int .i64 0] e0_w4 (by kernel_rfl) (by kernel_rfl) (by kernel_rfl) ?_)
        have e1_w5 := (setRow_other w4 p0 p1 #[.int .i64 b0, .int .i64 b1] (by omega)).trans e1_w4
        have e0_w5 := setRow_heap w4 p0 _ #[.int .i64 b0, .int .i64 b1] _ _ e0_w4
        have e2_w5 := (setRow_other w4 p0 p2 #[.int .i64 b0, .int .i64 b1] (by omega)).trans e2_w4
        have bb5 : Below W.heap.size W (w4.setRow p0 #[.int .i64 b0, .int .i64 b1]) := bb4.trans ⟨rfl, rfl, rfl, by simp, fun k hk => setRow_other _ _ _ _ (by omega)⟩
        refine ⟨⟨⟨_, bb5⟩, rfl⟩, ?_⟩
        try simp only [Act.put]
        generalize w4.setRow p0 #[.int .i64 b0, .int .i64 b1] = w5 at *
        rw [wpWays_one3]
        try simp only [List.map_nil, opAt, List.getElem?_toArray, List.getElem?_cons_zero, List.getElem?_cons_succ, Option.getD_some]
        repeat (go_big_quiet_step (fail))
        refine wpQuiet_nil ?_
        go_wp2_with (refine wpList_store_row rfl 99 (.tmp 9) (.tmp 25) rfl p2 #[.int .i64 c0, .int .i64 c1] rfl rfl 99 #[.int .i64 0, .int .i64 0] e2_w5 (by kernel_rfl) (by kernel_rfl) (by kernel_rfl) ?_)
        have e1_w6 := (setRow_other w5 p2 p1 #[.int .i64 c0, .int .i64 c1] (by omega)).trans e1_w5
        have e0_w6 := (setRow_other w5 p2 p0 #[.int .i64 c0, .int .i64 c1] (by omega)).trans e0_w5
        have e2_w6 := setRow_heap w5 p2 _ #[.int .i64 c0, .int .i64 c1] _ _ e2_w5
        have bb6 : Below W.heap.size W (w5.setRow p2 #[.int .i64 c0, .int .i64 c1]) := bb5.trans ⟨rfl, rfl, rfl, by simp, fun k hk => setRow_other _ _ _ _ (by omega)⟩
        refine ⟨⟨⟨_, bb6⟩, rfl⟩, ?_⟩
        try simp only [Act.put]
        generalize w5.setRow p2 #[.int .i64 c0, .int .i64 c1] = w6 at *
        rw [wpWays_done3]
        try simp only [List.map_nil]
        repeat (go_big_quiet_step (fail))
        refine wpQuiet_nil ?_
        go_wp2_with fail
        go_meet
        exact ⟨p1, p0, p2, rfl, rfl, rfl, e1_w6, e0_w6, e2_w6, bb6⟩
      · go_wp2_with fail
        have bb2 : Below W.heap.size W (w1.alloc (.cells #[.int .i64 0, .int .i64 0] 99)) := bb1.alloc bb1.size _
        have e1_w2 : (w1.alloc (.cells #[.int .i64 0, .int .i64 0] 99)).heap[w1.heap.size]? = _ := heap_alloc_new w1 _
        have e0_w2 := (Below.heap_alloc w1 (.cells #[.int .i64 0, .int .i64 0] 99) p0 (Array.getElem?_eq_some_iff.1 e0_w1).1).trans e0_w1
        have n01 : p0 < w1.heap.size := (Array.getElem?_eq_some_iff.1 e0_w1).1
        have l1 : W.heap.size ≤ w1.heap.size := bb1.size
        refine ⟨⟨⟨_, bb2⟩, rfl⟩, ?_⟩
        try simp only [Act.put, List.setIfInBounds_toArray, List.set_cons_zero, List.set_cons_succ]
        generalize w1.alloc (.cells #[.int .i64 0, .int .i64 0] 99) = w2 at *
        generalize hp1 : w1.heap.size = p1 at *
        rw [wpWays_one3]
        try simp only [List.map_nil, opAt, List.getElem?_toArray, List.getElem?_cons_zero, List.getElem?_cons_succ, Option.getD_some]
        repeat (go_big_quiet_step (fail))
        refine wpQuiet_nil ?_
        go_wp2_with fail
        have bb3 : Below W.heap.size W (w2.alloc (.cells #[.int .i64 0, .int .i64 0] 99)) := bb2.alloc bb2.size _
        have e2_w3 : (w2.alloc (.cells #[.int .i64 0, .int .i64 0] 99)).heap[w2.heap.size]? = _ := heap_alloc_new w2 _
        have e0_w3 := (Below.heap_alloc w2 (.cells #[.int .i64 0, .int .i64 0] 99) p0 (Array.getElem?_eq_some_iff.1 e0_w2).1).trans e0_w2
        have e1_w3 := (Below.heap_alloc w2 (.cells #[.int .i64 0, .int .i64 0] 99) p1 (Array.getElem?_eq_some_iff.1 e1_w2).1).trans e1_w2
        have n02 : p0 < w2.heap.size := (Array.getElem?_eq_some_iff.1 e0_w2).1
        have n12 : p1 < w2.heap.size := (Array.getElem?_eq_some_iff.1 e1_w2).1
        have l2 : W.heap.size ≤ w2.heap.size := bb2.size
        refine ⟨⟨⟨_, bb3⟩, rfl⟩, ?_⟩
        try simp only [Act.put, List.setIfInBounds_toArray, List.set_cons_zero, List.set_cons_succ]
        generalize w2.alloc (.cells #[.int .i64 0, .int .i64 0] 99) = w3 at *
        generalize hp2 : w2.heap.size = p2 at *
        rw [wpWays_one3]
        try simp only [List.map_nil, opAt, List.getElem?_toArray, List.getElem?_cons_zero, List.getElem?_cons_succ, Option.getD_some]
        repeat (go_big_quiet_step (fail))
        refine wpQuiet_nil ?_
        go_wp2_with (refine wpList_store_row rfl 99 (.tmp 7) (.tmp 15) rfl p2 #[.int .i64 a0, .int .i64 a1] rfl rfl 99 #[.int .i64 0, .int .i64 0] e2_w3 (by kernel_rfl) (by kernel_rfl) (by kernel_rfl) ?_)
        have e2_w4 := setRow_heap w3 p2 _ #[.int .i64 a0, .int .i64 a1] _ _ e2_w3
        have e0_w4 := (setRow_other w3 p2 p0 #[.int .i64 a0, .int .i64 a1] (by omega)).trans e0_w3
        have e1_w4 := (setRow_other w3 p2 p1 #[.int .i64 a0, .int .i64 a1] (by omega)).trans e1_w3
        have bb4 : Below W.heap.size W (w3.setRow p2 #[.int .i64 a0, .int .i64 a1]) := bb3.trans ⟨rfl, rfl, rfl, by simp, fun k hk => setRow_other _ _ _ _ (by omega)⟩
        refine ⟨⟨⟨_, bb4⟩, rfl⟩, ?_⟩
        try simp only [Act.put]
        generalize w3.setRow p2 #[.int .i64 a0, .int .i64 a1] = w4 at *
        rw [wpWays_one3]
        try simp only [List.map_nil, opAt, List.getElem?_toArray, List.getElem?_cons_zero, List.getElem?_cons_succ, Option.getD_some]
        repeat (go_big_quiet_step (fail))
        refine wpQuiet_nil ?_
        go_wp2_with (refine wpList_store_row rfl 99 (.tmp 8) (.tmp 20) rfl p0 #[.int .i64 b0, .int .i64 b1] rfl rfl 99 #[.int .i64 0, .int .i64 0] e0_w4 (by kernel_rfl) (by kernel_rfl) (by kernel_rfl) ?_)
        have e2_w5 := (setRow_other w4 p0 p2 #[.int .i64 b0, .int .i64 b1] (by omega)).trans e2_w4
        have e0_w5 := setRow_heap w4 p0 _ #[.int .i64 b0, .int .i64 b1] _ _ e0_w4
        have e1_w5 := (setRow_other w4 p0 p1 #[.int .i64 b0, .int .i64 b1] (by omega)).trans e1_w4
        have bb5 : Below W.heap.size W (w4.setRow p0 #[.int .i64 b0, .int .i64 b1]) := bb4.trans ⟨rfl, rfl, rfl, by simp, fun k hk => setRow_other _ _ _ _ (by omega)⟩
        refine ⟨⟨⟨_, bb5⟩, rfl⟩, ?_⟩
        try simp only [Act.put]
        generalize w4.setRow p0 #[.int .i64 b0, .int .i64 b1] = w5 at *
        rw [wpWays_one3]
        try simp only [List.map_nil, opAt, List.getElem?_toArray, List.getElem?_cons_zero, List.getElem?_cons_succ, Option.getD_some]
        repeat (go_big_quiet_step (fail))
        refine wpQuiet_nil ?_
        go_wp2_with (refine wpList_store_row rfl 99 (.tmp 9) (.tmp 25) rfl p1 #[.int .i64 c0, .int .i64 c1] rfl rfl 99 #[.int .i64 0, .int .i64 0] e1_w5 (by kernel_rfl) (by kernel_rfl) (by kernel_rfl) ?_)
        have e2_w6 := (setRow_other w5 p1 p2 #[.int .i64 c0, .int .i64 c1] (by omega)).trans e2_w5
        have e0_w6 := (setRow_other w5 p1 p0 #[.int .i64 c0, .int .i64 c1] (by omega)).trans e0_w5
        have e1_w6 := setRow_heap w5 p1 _ #[.int .i64 c0, .int .i64 c1] _ _ e1_w5
        have bb6 : Below W.heap.size W (w5.setRow p1 #[.int .i64 c0, .int .i64 c1]) := bb5.trans ⟨rfl, rfl, rfl, by simp, fun k hk => setRow_other _ _ _ _ (by omega)⟩
        refine ⟨⟨⟨_, bb6⟩, rfl⟩, ?_⟩
        try simp only [Act.put]
        generalize w5.setRow p1 #[.int .i64 c0, .int .i64 c1] = w6 at *
        rw [wpWays_done3]
        try simp only [List.map_nil]
        repeat (go_big_quiet_step (fail))
        refine wpQuiet_nil ?_
        go_wp2_with fail
        go_meet
        exact ⟨p2, p0, p1, rfl, rfl, rfl, e2_w6, e0_w6, e1_w6, bb6⟩
    · go_wp2_with fail
      have bb1 : Below W.heap.size W (w0.alloc (.cells #[.int .i64 0, .int .i64 0] 99)) := bb0.alloc bb0.size _
      have e0_w1 : (w0.alloc (.cells #[.int .i64 0, .int .i64 0] 99)).heap[w0.heap.size]? = _ := heap_alloc_new w0 _
      have l0 : W.heap.size ≤ w0.heap.size := bb0.size
      refine ⟨⟨⟨_, bb1⟩, rfl⟩, ?_⟩
      try simp only [Act.put, List.setIfInBounds_toArray, List.set_cons_zero, List.set_cons_succ]
      generalize w0.alloc (.cells #[.int .i64 0, .int .i64 0] 99) = w1 at *
      generalize hp0 : w0.heap.size = p0 at *
      rw [wpWays_two3]
      try simp only [List.map_nil, opAt, List.getElem?_toArray, List.getElem?_cons_zero, List.getElem?_cons_succ, Option.getD_some]
      repeat (go_big_quiet_step (fail))
      refine wpQuiet_nil ⟨?_, ?_⟩
      · go_wp2_with fail
        have bb2 : Below W.heap.size W (w1.alloc (.cells #[.int .i64 0, .int .i64 0] 99)) := bb1.alloc bb1.size _
        have e1_w2 : (w1.alloc (.cells #[.int .i64 0, .int .i64 0] 99)).heap[w1.heap.size]? = _ := heap_alloc_new w1 _
        have e0_w2 := (Below.heap_alloc w1 (.cells #[.int .i64 0, .int .i64 0] 99) p0 (Array.getElem?_eq_some_iff.1 e0_w1).1).trans e0_w1
        have n01 : p0 < w1.heap.size := (Array.getElem?_eq_some_iff.1 e0_w1).1
        have l1 : W.heap.size ≤ w1.heap.size := bb1.size
        refine ⟨⟨⟨_, bb2⟩, rfl⟩, ?_⟩
        try simp only [Act.put, List.setIfInBounds_toArray, List.set_cons_zero, List.set_cons_succ]
        generalize w1.alloc (.cells #[.int .i64 0, .int .i64 0] 99) = w2 at *
        generalize hp1 : w1.heap.size = p1 at *
        rw [wpWays_one3]
        try simp only [List.map_nil, opAt, List.getElem?_toArray, List.getElem?_cons_zero, List.getElem?_cons_succ, Option.getD_some]
        repeat (go_big_quiet_step (fail))
        refine wpQuiet_nil ?_
        go_wp2_with fail
        have bb3 : Below W.heap.size W (w2.alloc (.cells #[.int .i64 0, .int .i64 0] 99)) := bb2.alloc bb2.size _
        have e2_w3 : (w2.alloc (.cells #[.int .i64 0, .int .i64 0] 99)).heap[w2.heap.size]? = _ := heap_alloc_new w2 _
        have e0_w3 := (Below.heap_alloc w2 (.cells #[.int .i64 0, .int .i64 0] 99) p0 (Array.getElem?_eq_some_iff.1 e0_w2).1).trans e0_w2
        have e1_w3 := (Below.heap_alloc w2 (.cells #[.int .i64 0, .int .i64 0] 99) p1 (Array.getElem?_eq_some_iff.1 e1_w2).1).trans e1_w2
        have n02 : p0 < w2.heap.size := (Array.getElem?_eq_some_iff.1 e0_w2).1
        have n12 : p1 < w2.heap.size := (Array.getElem?_eq_some_iff.1 e1_w2).1
        have l2 : W.heap.size ≤ w2.heap.size := bb2.size
        refine ⟨⟨⟨_, bb3⟩, rfl⟩, ?_⟩
        try simp only [Act.put, List.setIfInBounds_toArray, List.set_cons_zero, List.set_cons_succ]
        generalize w2.alloc (.cells #[.int .i64 0, .int .i64 0] 99) = w3 at *
        generalize hp2 : w2.heap.size = p2 at *
        rw [wpWays_one3]
        try simp only [List.map_nil, opAt, List.getElem?_toArray, List.getElem?_cons_zero, List.getElem?_cons_succ, Option.getD_some]
        repeat (go_big_quiet_step (fail))
        refine wpQuiet_nil ?_
        go_wp2_with (refine wpList_store_row rfl 99 (.tmp 7) (.tmp 15) rfl p1 #[.int .i64 a0, .int .i64 a1] rfl rfl 99 #[.int .i64 0, .int .i64 0] e1_w3 (by kernel_rfl) (by kernel_rfl) (by kernel_rfl) ?_)
        have e1_w4 := setRow_heap w3 p1 _ #[.int .i64 a0, .int .i64 a1] _ _ e1_w3
        have e2_w4 := (setRow_other w3 p1 p2 #[.int .i64 a0, .int .i64 a1] (by omega)).trans e2_w3
        have e0_w4 := (setRow_other w3 p1 p0 #[.int .i64 a0, .int .i64 a1] (by omega)).trans e0_w3
        have bb4 : Below W.heap.size W (w3.setRow p1 #[.int .i64 a0, .int .i64 a1]) := bb3.trans ⟨rfl, rfl, rfl, by simp, fun k hk => setRow_other _ _ _ _ (by omega)⟩
        refine ⟨⟨⟨_, bb4⟩, rfl⟩, ?_⟩
        try simp only [Act.put]
        generalize w3.setRow p1 #[.int .i64 a0, .int .i64 a1] = w4 at *
        rw [wpWays_one3]
        try simp only [List.map_nil, opAt, List.getElem?_toArray, List.getElem?_cons_zero, List.getElem?_cons_succ, Option.getD_some]
        repeat (go_big_quiet_step (fail))
        refine wpQuiet_nil ?_
        go_wp2_with (refine wpList_store_row rfl 99 (.tmp 8) (.tmp 20) rfl p2 #[.int .i64 b0, .int .i64 b1] rfl rfl 99 #[.int .i64 0, .int .i64 0] e2_w4 (by kernel_rfl) (by kernel_rfl) (by kernel_rfl) ?_)
        have e1_w5 := (setRow_other w4 p2 p1 #[.int .i64 b0, .int .i64 b1] (by omega)).trans e1_w4
        have e2_w5 := setRow_heap w4 p2 _ #[.int .i64 b0, .int .i64 b1] _ _ e2_w4
        have e0_w5 := (setRow_other w4 p2 p0 #[.int .i64 b0, .int .i64 b1] (by omega)).trans e0_w4
        have bb5 : Below W.heap.size W (w4.setRow p2 #[.int .i64 b0, .int .i64 b1]) := bb4.trans ⟨rfl, rfl, rfl, by simp, fun k hk => setRow_other _ _ _ _ (by omega)⟩
        refine ⟨⟨⟨_, bb5⟩, rfl⟩, ?_⟩
        try simp only [Act.put]
        generalize w4.setRow p2 #[.int .i64 b0, .int .i64 b1] = w5 at *
        rw [wpWays_one3]
        try simp only [List.map_nil, opAt, List.getElem?_toArray, List.getElem?_cons_zero, List.getElem?_cons_succ, Option.getD_some]
        repeat (go_big_quiet_step (fail))
        refine wpQuiet_nil ?_
        go_wp2_with (refine wpList_store_row rfl 99 (.tmp 9) (.tmp 25) rfl p0 #[.int .i64 c0, .int .i64 c1] rfl rfl 99 #[.int .i64 0, .int .i64 0] e0_w5 (by kernel_rfl) (by kernel_rfl) (by kernel_rfl) ?_)
        have e1_w6 := (setRow_other w5 p0 p1 #[.int .i64 c0, .int .i64 c1] (by omega)).trans e1_w5
        have e2_w6 := (setRow_other w5 p0 p2 #[.int .i64 c0, .int .i64 c1] (by omega)).trans e2_w5
        have e0_w6 := setRow_heap w5 p0 _ #[.int .i64 c0, .int .i64 c1] _ _ e0_w5
        have bb6 : Below W.heap.size W (w5.setRow p0 #[.int .i64 c0, .int .i64 c1]) := bb5.trans ⟨rfl, rfl, rfl, by simp, fun k hk => setRow_other _ _ _ _ (by omega)⟩
        refine ⟨⟨⟨_, bb6⟩, rfl⟩, ?_⟩
        try simp only [Act.put]
        generalize w5.setRow p0 #[.int .i64 c0, .int .i64 c1] = w6 at *
        rw [wpWays_done3]
        try simp only [List.map_nil]
        repeat (go_big_quiet_step (fail))
        refine wpQuiet_nil ?_
        go_wp2_with fail
        go_meet
        exact ⟨p1, p2, p0, rfl, rfl, rfl, e1_w6, e2_w6, e0_w6, bb6⟩
      · go_wp2_with fail
        have bb2 : Below W.heap.size W (w1.alloc (.cells #[.int .i64 0, .int .i64 0] 99)) := bb1.alloc bb1.size _
        have e1_w2 : (w1.alloc (.cells #[.int .i64 0, .int .i64 0] 99)).heap[w1.heap.size]? = _ := heap_alloc_new w1 _
        have e0_w2 := (Below.heap_alloc w1 (.cells #[.int .i64 0, .int .i64 0] 99) p0 (Array.getElem?_eq_some_iff.1 e0_w1).1).trans e0_w1
        have n01 : p0 < w1.heap.size := (Array.getElem?_eq_some_iff.1 e0_w1).1
        have l1 : W.heap.size ≤ w1.heap.size := bb1.size
        refine ⟨⟨⟨_, bb2⟩, rfl⟩, ?_⟩
        try simp only [Act.put, List.setIfInBounds_toArray, List.set_cons_zero, List.set_cons_succ]
        generalize w1.alloc (.cells #[.int .i64 0, .int .i64 0] 99) = w2 at *
        generalize hp1 : w1.heap.size = p1 at *
        rw [wpWays_one3]
        try simp only [List.map_nil, opAt, List.getElem?_toArray, List.getElem?_cons_zero, List.getElem?_cons_succ, Option.getD_some]
        repeat (go_big_quiet_step (fail))
        refine wpQuiet_nil ?_
        go_wp2_with fail
        have bb3 : Below W.heap.size W (w2.alloc (.cells #[.int .i64 0, .int .i64 0] 99)) := bb2.alloc bb2.size _
        have e2_w3 : (w2.alloc (.cells #[.int .i64 0, .int .i64 0] 99)).heap[w2.heap.size]? = _ := heap_alloc_new w2 _
        have e0_w3 := (Below.heap_alloc w2 (.cells #[.int .i64 0, .int .i64 0] 99) p0 (Array.getElem?_eq_some_iff.1 e0_w2).1).trans e0_w2
        have e1_w3 := (Below.heap_alloc w2 (.cells #[.int .i64 0, .int .i64 0] 99) p1 (Array.getElem?_eq_some_iff.1 e1_w2).1).trans e1_w2
        have n02 : p0 < w2.heap.size := (Array.getElem?_eq_some_iff.1 e0_w2).1
        have n12 : p1 < w2.heap.size := (Array.getElem?_eq_some_iff.1 e1_w2).1
        have l2 : W.heap.size ≤ w2.heap.size := bb2.size
        refine ⟨⟨⟨_, bb3⟩, rfl⟩, ?_⟩
        try simp only [Act.put, List.setIfInBounds_toArray, List.set_cons_zero, List.set_cons_succ]
        generalize w2.alloc (.cells #[.int .i64 0, .int .i64 0] 99) = w3 at *
        generalize hp2 : w2.heap.size = p2 at *
        rw [wpWays_one3]
        try simp only [List.map_nil, opAt, List.getElem?_toArray, List.getElem?_cons_zero, List.getElem?_cons_succ, Option.getD_some]
        repeat (go_big_quiet_step (fail))
        refine wpQuiet_nil ?_
        go_wp2_with (refine wpList_store_row rfl 99 (.tmp 7) (.tmp 15) rfl p2 #[.int .i64 a0, .int .i64 a1] rfl rfl 99 #[.int .i64 0, .int .i64 0] e2_w3 (by kernel_rfl) (by kernel_rfl) (by kernel_rfl) ?_)
        have e2_w4 := setRow_heap w3 p2 _ #[.int .i64 a0, .int .i64 a1] _ _ e2_w3
        have e1_w4 := (setRow_other w3 p2 p1 #[.int .i64 a0, .int .i64 a1] (by omega)).trans e1_w3
        have e0_w4 := (setRow_other w3 p2 p0 #[.int .i64 a0, .int .i64 a1] (by omega)).trans e0_w3
        have bb4 : Below W.heap.size W (w3.setRow p2 #[.int .i64 a0, .int .i64 a1]) := bb3.trans ⟨rfl, rfl, rfl, by simp, fun k hk => setRow_other _ _ _ _ (by omega)⟩
        refine ⟨⟨⟨_, bb4⟩, rfl⟩, ?_⟩
        try simp only [Act.put]
        generalize w3.setRow p2 #[.int .i64 a0, .int .i64 a1] = w4 at *
        rw [wpWays_one3]
        try simp only [List.map_nil, opAt, List.getElem?_toArray, List.getElem?_cons_zero, List.getElem?_cons_succ, Option.getD_some]
        repeat (go_big_quiet_step (fail))
        refine wpQuiet_nil ?_
        go_wp2_with (refine wpList_store_row rfl 99 (.tmp 8) (.tmp 20) rfl p1 #[.int .i64 b0, .int .i64 b1] rfl rfl 99 #[.int .i64 0, .int .i64 0] e1_w4 (by kernel_rfl) (by kernel_rfl) (by kernel_rfl) ?_)
        have e2_w5 := (setRow_other w4 p1 p2 #[.int .i64 b0, .int .i64 b1] (by omega)).trans e2_w4
        have e1_w5 := setRow_heap w4 p1 _ #[.int .i64 b0, .int .i64 b1] _ _ e1_w4
        have e0_w5 := (setRow_other w4 p1 p0 #[.int .i64 b0, .int .i64 b1] (by omega)).trans e0_w4
        have bb5 : Below W.heap.size W (w4.setRow p1 #[.int .i64 b0, .int .i64 b1]) := bb4.trans ⟨rfl, rfl, rfl, by simp, fun k hk => setRow_other _ _ _ _ (by omega)⟩
        refine ⟨⟨⟨_, bb5⟩, rfl⟩, ?_⟩
        try simp only [Act.put]
        generalize w4.setRow p1 #[.int .i64 b0, .int .i64 b1] = w5 at *
        rw [wpWays_one3]
        try simp only [List.map_nil, opAt, List.getElem?_toArray, List.getElem?_cons_zero, List.getElem?_cons_succ, Option.getD_some]
        repeat (go_big_quiet_step (fail))
        refine wpQuiet_nil ?_
        go_wp2_with (refine wpList_store_row rfl 99 (.tmp 9) (.tmp 25) rfl p0 #[.int .i64 c0, .int .i64 c1] rfl rfl 99 #[.int .i64 0, .int .i64 0] e0_w5 (by kernel_rfl) (by kernel_rfl) (by kernel_rfl) ?_)
        have e2_w6 := (setRow_other w5 p0 p2 #[.int .i64 c0, .int .i64 c1] (by omega)).trans e2_w5
        have e1_w6 := (setRow_other w5 p0 p1 #[.int .i64 c0, .int .i64 c1] (by omega)).trans e1_w5
        have e0_w6 := setRow_heap w5 p0 _ #[.int .i64 c0, .int .i64 c1] _ _ e0_w5
        have bb6 : Below W.heap.size W (w5.setRow p0 #[.int .i64 c0, .int .i64 c1]) := bb5.trans ⟨rfl, rfl, rfl, by simp, fun k hk => setRow_other _ _ _ _ (by omega)⟩
        refine ⟨⟨⟨_, bb6⟩, rfl⟩, ?_⟩
        try simp only [Act.put]
        generalize w5.setRow p0 #[.int .i64 c0, .int .i64 c1] = w6 at *
        rw [wpWays_done3]
        try simp only [List.map_nil]
        repeat (go_big_quiet_step (fail))
        refine wpQuiet_nil ?_
        go_wp2_with fail
        go_meet
        exact ⟨p2, p1, p0, rfl, rfl, rfl, e2_w6, e1_w6, e0_w6, bb6⟩
  case rest =>
    obtain ⟨p, q, r, rfl, rfl, rfl, hp, hq, hr, hbc⟩ := hcut
    have hbr := Below.refl wc.heap.size wc
    have HP := Lib.hid hp
    have HQ := Lib.hid hq
    have HR := Lib.hid hr
    clear hp hq hr
    clear ca0 ca1 cb0 cb1 cc0 cc1 la lb lc
    have hbW := hb0.trans (hbc.mono (by omega))
    have hwc : nA ≤ wc.heap.size := by have := hbc.size; omega
    rcases hor with ⟨rfl, rfl, he, h34⟩ | ⟨rfl, rfl, he⟩ | ⟨rfl, rfl, he, he2⟩
    · rcases h34 with rfl | ⟨rfl, rfl⟩
      · rcases he with hne | ⟨rfl, hne⟩
        · go_wp2_with (first
          | (refine wpList_load_row rfl 99 (.tmp 7) rfl p rfl 99 _ (0, 0) _ (row_kept HP.out (by assumption)) Try.underlying99 rfl (by kernel_rfl) ?_)
          | (refine wpList_load_row rfl 99 (.tmp 8) rfl q rfl 99 _ (0, 0) _ (row_kept HQ.out (by assumption)) Try.underlying99 rfl (by kernel_rfl) ?_)
          | (refine wpList_load_row rfl 99 (.tmp 9) rfl r rfl 99 _ (0, 0) _ (row_kept HR.out (by assumption)) Try.underlying99 rfl (by kernel_rfl) ?_)
          | (go_at_call 58; (with_reducible refine (less_l _ _ _ _ _ H1.out wc).mono ?_); rintro e w1 ⟨rfl, hb1⟩; have hbx1 := hbr.trans (hb1.mono hbr.size))
          | (go_at_call 58; (with_reducible refine (less_l _ _ _ _ _ H2.out w1).mono ?_); rintro e w2 ⟨rfl, hb2⟩; have hbx2 := hbx1.trans (hb2.mono hbx1.size))
          | (go_at_call 48; refine (ndputs_any _).mono ?_; rintro e w3 ⟨rfl, hb3⟩; have hbx3 := hbx2.trans (hb3.mono hbx2.size); obtain ⟨cp03, cp13⟩ := key_cells HP.out hbx3; obtain ⟨cq03, cq13⟩ := key_cells HQ.out hbx3)
          | (go_at_call 58; (with_reducible refine (less_l _ _ _ _ _ H1.out w3).mono ?_); rintro e w4 ⟨rfl, hb4⟩; have hbx4 := hbx3.trans (hb4.mono hbx3.size); obtain ⟨cq04, cq14⟩ := key_cells HQ.out hbx4; obtain ⟨cr04, cr14⟩ := key_cells HR.out hbx4)
          | (go_at_call 58; (with_reducible refine (less_l _ _ _ _ _ H3.out w4).mono ?_); rintro e w5 ⟨rfl, hb5⟩; have hbx5 := hbx4.trans (hb5.mono hbx4.size); obtain ⟨cp05, cp15⟩ := key_cells HP.out hbx5; obtain ⟨cr05, cr15⟩ := key_cells HR.out hbx5)
          | (go_at_call 58; (with_reducible refine (less_l _ _ _ _ _ H4.out w5).mono ?_); rintro e w6 ⟨rfl, hb6⟩; have hbx6 := hbx5.trans (hb6.mono hbx5.size))
          | fail)
          go_ret
          exact ⟨rfl, by rw [HA.out]; exact hbW.trans (hbx5.mono hwc)⟩
        · go_wp2_with (first
          | (refine wpList_load_row rfl 99 (.tmp 7) rfl p rfl 99 _ (0, 0) _ (row_kept HP.out (by assumption)) Try.underlying99 rfl (by kernel_rfl) ?_)
          | (refine wpList_load_row rfl 99 (.tmp 8) rfl q rfl 99 _ (0, 0) _ (row_kept HQ.out (by assumption)) Try.underlying99 rfl (by kernel_rfl) ?_)
          | (refine wpList_load_row rfl 99 (.tmp 9) rfl r rfl 99 _ (0, 0) _ (row_kept HR.out (by assumption)) Try.underlying99 rfl (by kernel_rfl) ?_)
          | (go_at_call 58; (with_reducible refine (less_l _ _ _ _ _ H1.out wc).mono ?_); rintro e w1 ⟨rfl, hb1⟩; have hbx1 := hbr.trans (hb1.mono hbr.size))
          | (go_at_call 58; (with_reducible refine (less_l _ _ _ _ _ H2.out w1).mono ?_); rintro e w2 ⟨rfl, hb2⟩; have hbx2 := hbx1.trans (hb2.mono hbx1.size))
          | (go_at_call 48; refine (ndputs_any _).mono ?_; rintro e w3 ⟨rfl, hb3⟩; have hbx3 := hbx2.trans (hb3.mono hbx2.size); obtain ⟨cp03, cp13⟩ := key_cells HP.out hbx3; obtain ⟨cq03, cq13⟩ := key_cells HQ.out hbx3)
          | (go_at_call 58; (with_reducible refine (less_l _ _ _ _ _ H1.out w3).mono ?_); rintro e w4 ⟨rfl, hb4⟩; have hbx4 := hbx3.trans (hb4.mono hbx3.size); obtain ⟨cq04, cq14⟩ := key_cells HQ.out hbx4; obtain ⟨cr04, cr14⟩ := key_cells HR.out hbx4)
          | (go_at_call 58; (with_reducible refine (less_l _ _ _ _ _ H3.out w4).mono ?_); rintro e w5 ⟨rfl, hb5⟩; have hbx5 := hbx4.trans (hb5.mono hbx4.size); obtain ⟨cp05, cp15⟩ := key_cells HP.out hbx5; obtain ⟨cr05, cr15⟩ := key_cells HR.out hbx5)
          | (go_at_call 58; (with_reducible refine (less_l _ _ _ _ _ H4.out w5).mono ?_); rintro e w6 ⟨rfl, hb6⟩; have hbx6 := hbx5.trans (hb6.mono hbx5.size))
          | fail)
          go_ret
          exact ⟨rfl, by rw [HA.out]; exact hbW.trans (hbx5.mono hwc)⟩
      · rcases he with hne | ⟨rfl, hne⟩
        · go_wp2_with (first
          | (refine wpList_load_row rfl 99 (.tmp 7) rfl p rfl 99 _ (0, 0) _ (row_kept HP.out (by assumption)) Try.underlying99 rfl (by kernel_rfl) ?_)
          | (refine wpList_load_row rfl 99 (.tmp 8) rfl q rfl 99 _ (0, 0) _ (row_kept HQ.out (by assumption)) Try.underlying99 rfl (by kernel_rfl) ?_)
          | (refine wpList_load_row rfl 99 (.tmp 9) rfl r rfl 99 _ (0, 0) _ (row_kept HR.out (by assumption)) Try.underlying99 rfl (by kernel_rfl) ?_)
          | (go_at_call 58; (with_reducible refine (less_l _ _ _ _ _ H1.out wc).mono ?_); rintro e w1 ⟨rfl, hb1⟩; have hbx1 := hbr.trans (hb1.mono hbr.size))
          | (go_at_call 58; (with_reducible refine (less_l _ _ _ _ _ H2.out w1).mono ?_); rintro e w2 ⟨rfl, hb2⟩; have hbx2 := hbx1.trans (hb2.mono hbx1.size))
          | (go_at_call 48; refine (ndputs_any _).mono ?_; rintro e w3 ⟨rfl, hb3⟩; have hbx3 := hbx2.trans (hb3.mono hbx2.size); obtain ⟨cp03, cp13⟩ := key_cells HP.out hbx3; obtain ⟨cq03, cq13⟩ := key_cells HQ.out hbx3)
          | (go_at_call 58; (with_reducible refine (less_l _ _ _ _ _ H1.out w3).mono ?_); rintro e w4 ⟨rfl, hb4⟩; have hbx4 := hbx3.trans (hb4.mono hbx3.size); obtain ⟨cq04, cq14⟩ := key_cells HQ.out hbx4; obtain ⟨cr04, cr14⟩ := key_cells HR.out hbx4)
          | (go_at_call 58; (with_reducible refine (less_l _ _ _ _ _ H3.out w4).mono ?_); rintro e w5 ⟨rfl, hb5⟩; have hbx5 := hbx4.trans (hb5.mono hbx4.size); obtain ⟨cp05, cp15⟩ := key_cells HP.out hbx5; obtain ⟨cr05, cr15⟩ := key_cells HR.out hbx5)
          | (go_at_call 58; (with_reducible refine (less_l _ _ _ _ _ H4.out w5).mono ?_); rintro e w6 ⟨rfl, hb6⟩; have hbx6 := hbx5.trans (hb6.mono hbx5.size))
          | fail)
          go_ret
          exact ⟨rfl, by rw [HA.out]; exact hbW.trans (hbx6.mono hwc)⟩
        · go_wp2_with (first
          | (refine wpList_load_row rfl 99 (.tmp 7) rfl p rfl 99 _ (0, 0) _ (row_kept HP.out (by assumption)) Try.underlying99 rfl (by kernel_rfl) ?_)
          | (refine wpList_load_row rfl 99 (.tmp 8) rfl q rfl 99 _ (0, 0) _ (row_kept HQ.out (by assumption)) Try.underlying99 rfl (by kernel_rfl) ?_)
          | (refine wpList_load_row rfl 99 (.tmp 9) rfl r rfl 99 _ (0, 0) _ (row_kept HR.out (by assumption)) Try.underlying99 rfl (by kernel_rfl) ?_)
          | (go_at_call 58; (with_reducible refine (less_l _ _ _ _ _ H1.out wc).mono ?_); rintro e w1 ⟨rfl, hb1⟩; have hbx1 := hbr.trans (hb1.mono hbr.size))
          | (go_at_call 58; (with_reducible refine (less_l _ _ _ _ _ H2.out w1).mono ?_); rintro e w2 ⟨rfl, hb2⟩; have hbx2 := hbx1.trans (hb2.mono hbx1.size))
          | (go_at_call 48; refine (ndputs_any _).mono ?_; rintro e w3 ⟨rfl, hb3⟩; have hbx3 := hbx2.trans (hb3.mono hbx2.size); obtain ⟨cp03, cp13⟩ := key_cells HP.out hbx3; obtain ⟨cq03, cq13⟩ := key_cells HQ.out hbx3)
          | (go_at_call 58; (with_reducible refine (less_l _ _ _ _ _ H1.out w3).mono ?_); rintro e w4 ⟨rfl, hb4⟩; have hbx4 := hbx3.trans (hb4.mono hbx3.size); obtain ⟨cq04, cq14⟩ := key_cells HQ.out hbx4; obtain ⟨cr04, cr14⟩ := key_cells HR.out hbx4)
          | (go_at_call 58; (with_reducible refine (less_l _ _ _ _ _ H3.out w4).mono ?_); rintro e w5 ⟨rfl, hb5⟩; have hbx5 := hbx4.trans (hb5.mono hbx4.size); obtain ⟨cp05, cp15⟩ := key_cells HP.out hbx5; obtain ⟨cr05, cr15⟩ := key_cells HR.out hbx5)
          | (go_at_call 58; (with_reducible refine (less_l _ _ _ _ _ H4.out w5).mono ?_); rintro e w6 ⟨rfl, hb6⟩; have hbx6 := hbx5.trans (hb6.mono hbx5.size))
          | fail)
          go_ret
          exact ⟨rfl, by rw [HA.out]; exact hbW.trans (hbx6.mono hwc)⟩
    · rcases he with hne | ⟨rfl, hne⟩
      · go_wp2_with (first
        | (refine wpList_load_row rfl 99 (.tmp 7) rfl p rfl 99 _ (0, 0) _ (row_kept HP.out (by assumption)) Try.underlying99 rfl (by kernel_rfl) ?_)
        | (refine wpList_load_row rfl 99 (.tmp 8) rfl q rfl 99 _ (0, 0) _ (row_kept HQ.out (by assumption)) Try.underlying99 rfl (by kernel_rfl) ?_)
        | (refine wpList_load_row rfl 99 (.tmp 9) rfl r rfl 99 _ (0, 0) _ (row_kept HR.out (by assumption)) Try.underlying99 rfl (by kernel_rfl) ?_)
        | (go_at_call 58; (with_reducible refine (less_l _ _ _ _ _ H1.out wc).mono ?_); rintro e w1 ⟨rfl, hb1⟩; have hbx1 := hbr.trans (hb1.mono hbr.size))
        | (go_at_call 58; (with_reducible refine (less_l _ _ _ _ _ H2.out w1).mono ?_); rintro e w2 ⟨rfl, hb2⟩; have hbx2 := hbx1.trans (hb2.mono hbx1.size))
        | (go_at_call 48; refine (ndputs_any _).mono ?_; rintro e w3 ⟨rfl, hb3⟩; have hbx3 := hbx2.trans (hb3.mono hbx2.size); obtain ⟨cp03, cp13⟩ := key_cells HP.out hbx3; obtain ⟨cq03, cq13⟩ := key_cells HQ.out hbx3)
        | (go_at_call 58; (with_reducible refine (less_l _ _ _ _ _ H1.out w3).mono ?_); rintro e w4 ⟨rfl, hb4⟩; have hbx4 := hbx3.trans (hb4.mono hbx3.size); obtain ⟨cq04, cq14⟩ := key_cells HQ.out hbx4; obtain ⟨cr04, cr14⟩ := key_cells HR.out hbx4)
        | (go_at_call 58; (with_reducible refine (less_l _ _ _ _ _ H3.out w4).mono ?_); rintro e w5 ⟨rfl, hb5⟩; have hbx5 := hbx4.trans (hb5.mono hbx4.size); obtain ⟨cp05, cp15⟩ := key_cells HP.out hbx5; obtain ⟨cr05, cr15⟩ := key_cells HR.out hbx5)
        | (go_at_call 58; (with_reducible refine (less_l _ _ _ _ _ H4.out w5).mono ?_); rintro e w6 ⟨rfl, hb6⟩; have hbx6 := hbx5.trans (hb6.mono hbx5.size))
        | fail)
        go_ret
        exact ⟨rfl, by rw [HA.out]; exact hbW.trans (hbx4.mono hwc)⟩
      · go_wp2_with (first
        | (refine wpList_load_row rfl 99 (.tmp 7) rfl p rfl 99 _ (0, 0) _ (row_kept HP.out (by assumption)) Try.underlying99 rfl (by kernel_rfl) ?_)
        | (refine wpList_load_row rfl 99 (.tmp 8) rfl q rfl 99 _ (0, 0) _ (row_kept HQ.out (by assumption)) Try.underlying99 rfl (by kernel_rfl) ?_)
        | (refine wpList_load_row rfl 99 (.tmp 9) rfl r rfl 99 _ (0, 0) _ (row_kept HR.out (by assumption)) Try.underlying99 rfl (by kernel_rfl) ?_)
        | (go_at_call 58; (with_reducible refine (less_l _ _ _ _ _ H1.out wc).mono ?_); rintro e w1 ⟨rfl, hb1⟩; have hbx1 := hbr.trans (hb1.mono hbr.size))
        | (go_at_call 58; (with_reducible refine (less_l _ _ _ _ _ H2.out w1).mono ?_); rintro e w2 ⟨rfl, hb2⟩; have hbx2 := hbx1.trans (hb2.mono hbx1.size))
        | (go_at_call 48; refine (ndputs_any _).mono ?_; rintro e w3 ⟨rfl, hb3⟩; have hbx3 := hbx2.trans (hb3.mono hbx2.size); obtain ⟨cp03, cp13⟩ := key_cells HP.out hbx3; obtain ⟨cq03, cq13⟩ := key_cells HQ.out hbx3)
        | (go_at_call 58; (with_reducible refine (less_l _ _ _ _ _ H1.out w3).mono ?_); rintro e w4 ⟨rfl, hb4⟩; have hbx4 := hbx3.trans (hb4.mono hbx3.size); obtain ⟨cq04, cq14⟩ := key_cells HQ.out hbx4; obtain ⟨cr04, cr14⟩ := key_cells HR.out hbx4)
        | (go_at_call 58; (with_reducible refine (less_l _ _ _ _ _ H3.out w4).mono ?_); rintro e w5 ⟨rfl, hb5⟩; have hbx5 := hbx4.trans (hb5.mono hbx4.size); obtain ⟨cp05, cp15⟩ := key_cells HP.out hbx5; obtain ⟨cr05, cr15⟩ := key_cells HR.out hbx5)
        | (go_at_call 58; (with_reducible refine (less_l _ _ _ _ _ H4.out w5).mono ?_); rintro e w6 ⟨rfl, hb6⟩; have hbx6 := hbx5.trans (hb6.mono hbx5.size))
        | fail)
        go_ret
        exact ⟨rfl, by rw [HA.out]; exact hbW.trans (hbx4.mono hwc)⟩
    · subst he he2
      go_wp2_with (first
      | (refine wpList_load_row rfl 99 (.tmp 7) rfl p rfl 99 _ (0, 0) _ (row_kept HP.out (by assumption)) Try.underlying99 rfl (by kernel_rfl) ?_)
      | (refine wpList_load_row rfl 99 (.tmp 8) rfl q rfl 99 _ (0, 0) _ (row_kept HQ.out (by assumption)) Try.underlying99 rfl (by kernel_rfl) ?_)
      | (refine wpList_load_row rfl 99 (.tmp 9) rfl r rfl 99 _ (0, 0) _ (row_kept HR.out (by assumption)) Try.underlying99 rfl (by kernel_rfl) ?_)
      | (go_at_call 58; (with_reducible refine (less_l _ _ _ _ _ H1.out wc).mono ?_); rintro e w1 ⟨rfl, hb1⟩; have hbx1 := hbr.trans (hb1.mono hbr.size))
      | (go_at_call 58; (with_reducible refine (less_l _ _ _ _ _ H2.out w1).mono ?_); rintro e w2 ⟨rfl, hb2⟩; have hbx2 := hbx1.trans (hb2.mono hbx1.size))
      | (go_at_call 48; refine (ndputs_any _).mono ?_; rintro e w3 ⟨rfl, hb3⟩; have hbx3 := hbx2.trans (hb3.mono hbx2.size); obtain ⟨cp03, cp13⟩ := key_cells HP.out hbx3; obtain ⟨cq03, cq13⟩ := key_cells HQ.out hbx3)
      | (go_at_call 58; (with_reducible refine (less_l _ _ _ _ _ H1.out w3).mono ?_); rintro e w4 ⟨rfl, hb4⟩; have hbx4 := hbx3.trans (hb4.mono hbx3.size); obtain ⟨cq04, cq14⟩ := key_cells HQ.out hbx4; obtain ⟨cr04, cr14⟩ := key_cells HR.out hbx4)
      | (go_at_call 58; (with_reducible refine (less_l _ _ _ _ _ H3.out w4).mono ?_); rintro e w5 ⟨rfl, hb5⟩; have hbx5 := hbx4.trans (hb5.mono hbx4.size); obtain ⟨cp05, cp15⟩ := key_cells HP.out hbx5; obtain ⟨cr05, cr15⟩ := key_cells HR.out hbx5)
      | (go_at_call 58; (with_reducible refine (less_l _ _ _ _ _ H4.out w5).mono ?_); rintro e w6 ⟨rfl, hb6⟩; have hbx6 := hbx5.trans (hb6.mono hbx5.size))
      | fail)
      go_ret
      exact ⟨rfl, by rw [HA.out]; exact hbW.trans (hbx4.mono hwc)⟩

theorem nodeLess_walk (a0 a1 b0 b1 c0 c1 : Int) {w : World} :
    Calls Try.prog 12 #[.agg #[.int .i64 a0, .int .i64 a1], .agg #[.int .i64 b0, .int .i64 b1], .agg #[.int .i64 c0, .int .i64 c1]] w fun e w' => e = .returned (.bool true) ∧ Below w.heap.size w w' := by
  refine nodeLess_cut a0 a1 b0 b1 c0 c1 _ _ _ _ rfl rfl rfl rfl ?_
  simp only [ltK, decide_eq_true_eq, decide_eq_false_iff_not]
  omega
end Go.Proofs.Ytcjdmlhkomgkcaa
