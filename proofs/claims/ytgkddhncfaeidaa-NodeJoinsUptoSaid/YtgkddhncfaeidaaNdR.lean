/- Package node's Right, and what it calls, at the example. -/
import Derived.Test.YtgkddhncfaeidaaNdPut
import Derived.Test.YtgkddhncfaeidaaPiTree
import Derived.Deep.MidRow
namespace Go.Proofs.Ytgkddhncfaeidaa
open Go.RowKit CrcM PageM
set_option linter.unusedVariables false

theorem rightKey_nd (s t : Int) (h1 : 0 ≤ s) (h2 : s ≤ 4294967295) (w : World) :
    Calls Try.prog 62 #[.agg #[.int .i64 s, .int .i64 t]] w fun e w' => e = .returned (.bool true) ∧ Below w.heap.size w w' := by
  go_enter Try.func62, Try.ntmps62
  go_wp2_with fail
  go_ret
  exact ⟨rfl, (Below.refl _ _).alloc (Nat.le_refl _) _⟩

theorem isAddr_nd (a : Int) (h1 : 2 ≤ a) (h2 : a < 512) (w : World) :
    Calls Try.prog 64 #[.int .i64 a] w fun e w' => e = .returned (.bool true) ∧ w = w' := by
  go_enter Try.func64, Try.ntmps64
  go_wp2_with fail
  go_ret
  exact ⟨rfl, rfl⟩

theorem size_nd (e k : Option Addr) (ck : Nat) (d : Option Addr) (n cd : Nat) (w : World) :
    Calls Try.prog 15 #[.agg #[.bool false, .slice e 0 0, .slice k n ck, .slice d n cd]] w fun e w' => e = .returned (.int .i64 n) ∧ Below w.heap.size w w' := by
  go_enter Try.func15, Try.ntmps15
  go_wp2_with fail
  go_ret
  exact ⟨rfl, (Below.refl _ _).alloc (Nat.le_refl _) _⟩

theorem index_nil (A : Option Addr) (c : Nat) (v : Int) (w : World) :
    Calls Try.prog 85 #[.slice A 0 c, .int .i64 v] w fun e w' => e = .returned (.int .i64 (-1)) ∧ w = w' := by
  go_enter Try.func85, Try.ntmps85
  go_wp2_with fail
  go_loop [8] (fun i => i = .int .i64 0) (fun i => 0)
  case atStart => exact rfl
  case round =>
    subst hrel
    go_wp2_with fail
    go_ret
    exact ⟨rfl, rfl⟩

theorem contains_nil (A : Option Addr) (c : Nat) (v : Int) (w : World) :
    Calls Try.prog 65 #[.slice A 0 c, .int .i64 v] w fun e w' => e = .returned (.bool false) ∧ w = w' := by
  go_enter Try.func65, Try.ntmps65
  go_wp2_with (go_at_call 85; refine (index_nil _ _ _ _).mono ?_; rintro e w1 ⟨rfl, rfl⟩)
  go_ret
  exact ⟨rfl, rfl⟩

set_option maxRecDepth 100000 in
theorem rightKeys_ex (g c : Nat) (w : World) (h0 : w.cell? ⟨g, 0, none⟩ = some (.int .i64 1)) (h1 : w.cell? ⟨g, 1, none⟩ = some (.int .i64 2)) :
    Calls Try.prog 39 #[.slice (some ⟨g, 0, none⟩) 1 c] w fun e w' => e = .returned (.bool true) ∧ Below w.heap.size w w' := by
  have hbl := World.block_lt_of_cell? _ _ h0
  go_enter Try.func39, Try.ntmps39
  go_wp2_with fail
  go_loopw [15] (fun i wr => Below w.heap.size w wr ∧ (i = .int .i64 0 ∨ i = .int .i64 1)) (fun i _ => 1 - (intOf i).toNat)
  case atStart => exact ⟨Below.refl _ _, .inl rfl⟩
  case round =>
    obtain ⟨hb, rfl | rfl⟩ := hrel
    · have d0 := (hb.cell (p := ⟨g, 0, none⟩) hbl).trans h0
      have d1 := (hb.cell (p := ⟨g, 1, none⟩) hbl).trans h1
      have hr : wr.rangeAt g 0 [.int .i64 1, .int .i64 2] := by
        intro j x hx
        match j, hx with
        | 0, hx => simp at hx; subst hx; exact d0
        | 1, hx => simp at hx; subst hx; exact d1
      go_wp2_with (first
        | (refine wpList_load_mid rfl 46 _ rfl g 0 rfl _ _ hr Try.underlying46 rfl (by kernel_rfl) ?_)
        | (refine wpList_store_row rfl 46 (.tmp 4) (.tmp 19) rfl wr.heap.size _ rfl rfl 46 Try.zeroCells46 (heap_alloc_new _ _) (by kernel_rfl) (by kernel_rfl) (by kernel_rfl) ?_; rw [World.setRow_alloc_new]))
      have hbA : Below w.heap.size w (wr.alloc (.cells #[.int .i64 1, .int .i64 2] 46)) := hb.alloc hb.size _
      have TG : Hid (∀ y : SubW (wr.heap.size + 1) (wr.alloc (.cells #[.int .i64 1, .int .i64 2] 46)), y.at_.heap[wr.heap.size]? = some (.cells #[.int .i64 1, .int .i64 2] 46 (0, 0))) := Lib.hid fun y => (y.ok_.block _ (by omega)).trans (heap_alloc_new _ _)
      refine region_below (wr.heap.size + 1) (wr.alloc (.cells #[.int .i64 1, .int .i64 2] 46)) (Below.refl _ _) (by kernel_rfl) (by kernel_rfl) ?_
      repeat (first
        | (go_big_quiet_want; refine quiet_load_row 46 (.tmp 4) rfl wr.heap.size rfl 46 #[.int .i64 1, .int .i64 2] (0, 0) _ TG.out Try.underlying46 rfl (by kernel_rfl) ?_; simp only [Act.put, List.setIfInBounds_toArray, List.set_cons_zero, List.set_cons_succ]; go_big_quiet_on)
        | (go_big_quiet_step ((go_at_call 62; exact calls_sub (by simp) (rightKey_nd _ _ (by omega) (by omega) _)))))
      refine wpQuiet_nil ?_
      rintro w' ⟨y, rfl⟩
      go_wp2_with fail
      go_roundw
      case rel => exact ⟨hbA.trans (y.ok_.mono (by have := hb.size; omega)), .inr rfl⟩
      case measure => simp [intOf]
    · go_wp2_with fail
      go_ret
      exact ⟨rfl, hb⟩

set_option maxRecDepth 100000 in
theorem rightKids_ex (g c : Nat) (w : World) (h0 : w.cell? ⟨g, 0, none⟩ = some (.int .i64 5)) (hc : c ≤ maxLen) (hc1 : 1 ≤ c) :
    Calls Try.prog 40 #[.slice (some ⟨g, 0, none⟩) 1 c] w fun e w' => e = .returned (.bool true) ∧ w = w' := by
  unfold maxLen at hc
  go_enter Try.func40, Try.ntmps40
  go_wp2_with fail
  go_loopw [7] (fun i wr => wr = w ∧ (i = .int .i64 0 ∨ i = .int .i64 1)) (fun i _ => 1 - (intOf i).toNat)
  case atStart => exact ⟨rfl, .inl rfl⟩
  case round =>
    obtain ⟨rfl, rfl | rfl⟩ := hrel
    · go_wp2_with (first
        | (go_at_call 64; refine (isAddr_nd _ (by omega) (by omega) _).mono ?_; rintro e w1 ⟨rfl, rfl⟩)
        | (go_at_call 65; refine (contains_nil _ _ _ _).mono ?_; rintro e w1 ⟨rfl, rfl⟩))
      go_roundw
      case rel => exact ⟨trivial, .inr rfl⟩
      case measure => simp [intOf]
    · go_wp2_with fail
      go_ret
      exact ⟨rfl, rfl⟩

/-- The node of the example: its keys and its children stand there. -/
def NdAt (w : World) (gk gd : Nat) : Prop := w.cell? ⟨gk, 0, none⟩ = some (.int .i64 1) ∧ w.cell? ⟨gk, 1, none⟩ = some (.int .i64 2) ∧ w.cell? ⟨gd, 0, none⟩ = some (.int .i64 5)
theorem NdAt.below {w w' : World} {gk gd : Nat} (h : NdAt w gk gd) (hb : Below w.heap.size w w') : NdAt w' gk gd :=
  ⟨(hb.cell (p := ⟨gk, 0, none⟩) (World.block_lt_of_cell? _ _ h.1)).trans h.1, (hb.cell (p := ⟨gk, 1, none⟩) (World.block_lt_of_cell? _ _ h.2.1)).trans h.2.1, (hb.cell (p := ⟨gd, 0, none⟩) (World.block_lt_of_cell? _ _ h.2.2)).trans h.2.2⟩

theorem nd_row {w w1 : World} {cs : Array Value} {t : TypeId} (hb : Below (w.alloc (.cells cs t)).heap.size (w.alloc (.cells cs t)) w1) : w1.heap[w.heap.size]? = some (.cells cs t (0, 0)) := (hb.block _ (by simp)).trans (heap_alloc_new _ _)
theorem nd_cell {w1 : World} {g : Nat} {cs : Array Value} {t : TypeId} (h : w1.heap[g]? = some (.cells cs t (0, 0))) (i : Nat) (v : Value) (hv : cs[i]? = some v) : w1.cell? ⟨g, i, none⟩ = some v := (cell_of_row w1 g i cs t _ h).trans hv

set_option maxRecDepth 100000 in
theorem right_ex (e : Option Addr) (gk ck gd cd : Nat) (w : World) (h : NdAt w gk gd) (hc : cd ≤ maxLen) (hc1 : 1 ≤ cd) :
    Calls Try.prog 13 #[.agg #[.bool false, .slice e 0 0, .slice (some ⟨gk, 0, none⟩) 1 ck, .slice (some ⟨gd, 0, none⟩) 1 cd]] w fun r w' => r = .returned (.bool true) ∧ Below w.heap.size w w' := by
  have hb0 : Below w.heap.size w (w.alloc (.cells #[.bool false, .slice e 0 0, .slice (some ⟨gk, 0, none⟩) 1 ck, .slice (some ⟨gd, 0, none⟩) 1 cd] 34)) := (Below.refl _ _).alloc (Nat.le_refl _) _
  have h1 := Lib.hid (h.below hb0)
  go_enter Try.func13, Try.ntmps13
  go_wp2_with (first
    | (go_at_call 39; refine (rightKeys_ex gk ck _ h1.out.1 h1.out.2.1).mono ?_; rintro e w1 ⟨rfl, hb1⟩; have h2 := Lib.hid (h1.out.below hb1); have k3 := nd_cell (nd_row hb1) 3 _ rfl)
    | (go_at_call 40; refine (rightKids_ex gd cd _ h2.out.2.2 hc hc1).mono ?_; rintro e w2 ⟨rfl, rfl⟩))
  go_ret
  exact ⟨rfl, hb0.trans (hb1.mono (by simp))⟩
end Go.Proofs.Ytgkddhncfaeidaa
