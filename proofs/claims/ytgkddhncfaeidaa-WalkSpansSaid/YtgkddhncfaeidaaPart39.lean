/- Several texts in one: Series of a root that is too high: its walk. WalkSpans: its walk. -/
import Derived.Test.YtgkddhncfaeidaaPart38
import Derived.Test.YtgkddhncfaeidaaPart37
set_option linter.unusedSimpArgs false
set_option linter.unusedVariables false
namespace Go.Proofs.Ytgkddhncfaeidaa
open Go.RowKit Go.Shelf CrcM PageM
set_option linter.unusedVariables false
attribute [local go_sem] Oper.semAt_some

/-- The blocks that the loop's round writes. -/
def ownR (b : Nat) (_ : World) (k : Nat) : Prop := k = b + 1 ∨ k = b + 1 + 1
theorem kpR_put {b c : Nat} (hB : b + 2 < c) (W : World) (l : Nat) (o o' : Obj) (hl : c ≤ l) (h : W.heap[l]? = some o) (hc : o.isCells = false) : KpC b (ownR b) W (W.putObj l o') where
  bel := ⟨rfl, rfl, rfl, by simp [World.putObj], fun k hk => World.putObj_heap_other (by omega)⟩
  keep := fun k cs T fr hk _ => World.putObj_heap_other (fun e => by
    subst e
    rw [hk] at h
    cases h
    cases hc)
  own := fun k hk => .inl hk
theorem kpR_below {b : Nat} {A B : World} (h : Below A.heap.size A B) (hn : b ≤ A.heap.size) : KpC b (ownR b) A B where
  bel := h.mono hn
  keep := fun k cs T fr hk _ => h.block k (Array.getElem?_eq_some_iff.1 hk).1
  own := fun k hk => .inl hk
theorem kpR_set {b : Nat} (W : World) (u v : Value) : KpC b (ownR b) W ((W.setCell ⟨b + 1, 0, none⟩ u).setCell ⟨b + 1 + 1, 0, none⟩ v) where
  bel := ((Below.refl b W).setCell (p := ⟨b + 1, 0, none⟩) (by show b ≤ b + 1; omega) u).setCell (p := ⟨b + 1 + 1, 0, none⟩) (by show b ≤ b + 1 + 1; omega) v
  keep := fun k cs T fr hk hc => (Below.heap_setCell _ ⟨b + 1 + 1, 0, none⟩ v k (fun e => hc (.inr e))).trans (Below.heap_setCell W ⟨b + 1, 0, none⟩ u k (fun e => hc (.inl e)))
  own := fun k hk => .inl hk
/-- Between two rounds: there is but one. -/
structure ErI (w : World) (pre : List Unit) (err : Int) (W : World) : Prop where
  bel : Below w.heap.size w W
  c4 : Boxed W (w.heap.size + 1) 24 (.slice none 0 0)
  c5 : Boxed W (w.heap.size + 1 + 1) 28 (.int .i64 err)
theorem ErI.ck {w A B : World} {pre : List Unit} {err : Int} (h : ErI w pre err A) (k : CK w.heap.size A B) : ErI w pre err B := ⟨h.bel.trans k.bel, (k.keep _ _ _ _ h.c4 (by decide)).trans h.c4, (k.keep _ _ _ _ h.c5 (by decide)).trans h.c5⟩
theorem ErI.ok {w A : World} {pre : List Unit} {err : Int} (h : ErI w pre err A) : OkC w.heap.size (ownR w.heap.size) A := ⟨h.bel.size, fun k hk => by
  rcases hk with rfl | rfl
  · exact h.c4.lt
  · exact h.c5.lt⟩

set_option maxRecDepth 100000 in
set_option maxHeartbeats 8000000 in
theorem series_err (gv : Nat) (a hh : Int) (h5 : 5 < hh) (w : World) :
    CallsIn Fence.wide 3 Try.prog 29 #[.pointer (some ⟨gv, 0, none⟩), .agg #[.int .i64 a, .int .i64 hh]] w fun e w' => e = .returned (.tuple #[.slice none 0 0, .int .i64 1]) ∧ Below w.heap.size w w' := by
  refine callsIn_of_wp_marks Try.func29 rfl trivial ?_ rfl
  simp only [Try.ntmps29, List.size_toArray, List.length_cons, List.length_nil, Nat.reduceAdd, Nat.reduceSub, Array.replicate_succ, Array.replicate_zero, List.push_toArray, List.append_toArray, List.nil_append, List.cons_append]
  obtain ⟨w4, hw4⟩ : ∃ w4, w4 = ((((w.alloc (.cells #[.int .i64 a, .int .i64 hh] 63)).alloc (.cells #[.slice none 0 0] 24)).alloc (.cells #[.int .i64 0] 28)).alloc (.cells #[.slice none 0 0] 24)) := ⟨_, rfl⟩
  have Z4 : Hid (w4.heap.size = w.heap.size + 4) := Lib.hid (by rw [hw4]; simp)
  have B4 : Hid (Below w.heap.size w w4) := Lib.hid (by rw [hw4]; exact ((((Below.refl _ _).alloc (Nat.le_refl _) _).alloc (by simp) _).alloc (by simp; omega) _).alloc (by simp; omega) _)
  have G3 : Hid (w4.heap[w.heap.size]? = some (.cells #[.int .i64 a, .int .i64 hh] 63 (0, 0))) := Lib.hid (by
    rw [hw4]
    exact row_stays (row_stays (row_stays (heap_alloc_new w _) (alloc_bel rfl)) (alloc_bel rfl)) (alloc_bel rfl))
  have G4 : Hid (w4.heap[w.heap.size + 1]? = some (.cells #[.slice none 0 0] 24 (0, 0))) := Lib.hid (by
    rw [hw4]
    have h1 := heap_alloc_new (w.alloc (.cells #[.int .i64 a, .int .i64 hh] 63)) (.cells #[.slice none 0 0] 24)
    rw [World.size_alloc] at h1
    exact row_stays (row_stays h1 (alloc_bel rfl)) (alloc_bel rfl))
  have G5 : Hid (w4.heap[w.heap.size + 1 + 1]? = some (.cells #[.int .i64 0] 28 (0, 0))) := Lib.hid (by
    rw [hw4]
    have h1 := heap_alloc_new ((w.alloc (.cells #[.int .i64 a, .int .i64 hh] 63)).alloc (.cells #[.slice none 0 0] 24)) (.cells #[.int .i64 0] 28)
    rw [World.size_alloc, World.size_alloc] at h1
    exact row_stays h1 (alloc_bel rfl))
  obtain ⟨Bl, hBl⟩ : ∃ Bl, Bl = w.heap.size + 1 + 1 + 1 := ⟨_, rfl⟩
  have L4 : Hid (Boxed w4 Bl 24 (.slice none 0 0)) := Lib.hid (by
    rw [hw4, hBl]
    have h1 := heap_alloc_new (((w.alloc (.cells #[.int .i64 a, .int .i64 hh] 63)).alloc (.cells #[.slice none 0 0] 24)).alloc (.cells #[.int .i64 0] 28)) (.cells #[.slice none 0 0] 24)
    rw [World.size_alloc, World.size_alloc, World.size_alloc] at h1
    exact h1)
  have HW4 := Lib.hid hw4
  have HBL := Lib.hid hBl
  clear hw4 hBl
  gi_wp2_with (rw [← HW4.out, ← HBL.out]; refine wideIn_load_row rfl 63 (.tmp 3) rfl w.heap.size rfl 63 _ (0, 0) _ G3.out Try.underlying63 rfl (by kernel_rfl) ?_)
  refine ⟨trivial, (entriesF_mk _ gv a hh w4).mono ?_⟩
  rintro e w9 ⟨rfl, hw9⟩
  have Z9 : Hid (w9.heap.size = w.heap.size + 6) := Lib.hid (by rw [hw9]; simp [Z4.out])
  have B49 : Hid (Below w4.heap.size w4 w9) := Lib.hid (by rw [hw9]; exact ((Below.refl _ _).alloc (Nat.le_refl _) _).alloc (by simp) _)
  have X1 : Hid (w9.heap[w4.heap.size]? = some (.cells #[.pointer (some ⟨gv, 0, none⟩)] 61 (0, 0))) := Lib.hid (by rw [hw9]; exact row_stays (heap_alloc_new _ _) (alloc_bel rfl))
  have X2 : Hid (w9.heap[w4.heap.size + 1]? = some (.cells #[.int .i64 a, .int .i64 hh] 63 (0, 0))) := Lib.hid (by
    rw [hw9]
    have h1 := heap_alloc_new (w4.alloc (.cells #[.pointer (some ⟨gv, 0, none⟩)] 61)) (.cells #[.int .i64 a, .int .i64 hh] 63)
    rw [World.size_alloc] at h1
    exact h1)
  clear hw9
  have B9 : Hid (Below w.heap.size w w9) := Lib.hid (B4.out.trans (B49.out.mono B4.out.size))
  have I9 : Hid (ErI w [] 0 w9) := Lib.hid ⟨B9.out, row_stays G4.out B49.out, row_stays G5.out B49.out⟩
  have hN9 : w.heap.size ≤ w9.heap.size := B9.out.size
  have hB9 : w.heap.size + 2 < w9.heap.size := by have := Z9.out; omega
  gi_wp2
  refine wpIn_rangeFunc_T rfl (by decide) (gf := 59) (lb := #[.pointer (some ⟨w4.heap.size, 0, none⟩), .pointer (some ⟨w4.heap.size + 1, 0, none⟩)]) rfl trivial (enters_of Try.func59 (by kernel_rfl) rfl)
    (entriesF_err 2 gv w.heap.size w4.heap.size (w4.heap.size + 1) a hh h5 (ownR w.heap.size))
    (fun A B l o hl ho hc h => h.keep l o ho (fun cs fr e => by subst e; cases hc)) KpC.trans (fun W l o o' hl ho hc => kpR_put hB9 W l o o' hl ho hc) (fun _ => rfl)
    (fun W1 hb hz => ⟨row_stays X1.out hb, row_stays X2.out hb⟩)
    (fun xs s A B row hs hg hr => hs) (fun xs s A B row hs hg hr => hs)
    (fun pre W => pre = [] ∧ ErI w pre 0 W) (fun cd pre W => cd = .ret ∧ ErI w pre 1 W)
    (ownFrom_ck hN9 (fun s A h => h.2.bel.size) (fun s A B h k => ⟨h.1, h.2.ck k⟩))
    (fun c => ownFrom_ck hN9 (fun s A h => h.2.bel.size) (fun s A B h k => ⟨h.1, h.2.ck k⟩))
    (fun s A B h k => ⟨h.1, h.2.ck k.ck⟩) (fun s A h => h.2.ok) (fun s A B h k => fun _ h => h) ⟨rfl, I9.out⟩
    (fun x a' W => ∃ Bx, a' = { tmps := #[.pointer (some ⟨gv, 0, none⟩), .agg #[.int .i64 a, .int .i64 hh], undef, .pointer (some ⟨w.heap.size, 0, none⟩), .pointer (some ⟨w.heap.size + 1, 0, none⟩), .pointer (some ⟨w.heap.size + 1 + 1, 0, none⟩), .pointer (some ⟨Bl, 0, none⟩), .pointer (some ⟨Bx, 0, none⟩), .int .i64 1, .pointer (some ⟨gv, 0, none⟩), .agg #[.int .i64 a, .int .i64 hh], .func (.func 59) #[] #[.pointer (some ⟨w4.heap.size, 0, none⟩), .pointer (some ⟨w4.heap.size + 1, 0, none⟩)], .agg #[.int .i64 0, .int .i64 0, .int .i64 0, .int .i64 0, .int .i64 0, .int .i64 0, .int .i64 0, .int .u32 0], .int .i64 1, undef, undef, undef, undef, undef, undef, undef, undef, undef, undef, undef, undef, undef, undef, undef, undef, undef, undef, undef, undef, undef, undef, undef, undef, undef], defers := [] })
    (fun x a' s A B row hs hg hr => hs) ?assign ?body ?done ?stop
  case assign =>
    rintro l pre x W K hi hK
    have HK := Lib.hid hK
    clear hK
    dsimp only [zeroE]
    gi_wp2_with (refine inF_store_row rfl 77 (.tmp 7) (.tmp 12) rfl W.heap.size #[.int .i64 0, .int .i64 0, .int .i64 0, .int .i64 0, .int .i64 0, .int .i64 0, .int .i64 0, .int .u32 0] rfl rfl 77 _ (heap_alloc_new _ _) (by kernel_rfl) rfl (by simp [Value.oneCell']) ?_; rw [World.setRow_alloc_new])
    refine HK.out _ _ ((KeepsOthers.alloc _ _).from _) (kpR_below (alloc_bel rfl) hi.2.bel.size) ⟨hi.1, hi.2.ck (ck_below (alloc_bel rfl) hi.2.bel.size)⟩ ⟨W.heap.size, rfl⟩
  case body =>
    rintro l pre x a' W hl ⟨r, hr⟩ ⟨rfl, hi⟩ ⟨Bx, rfl⟩ hNlt
    have c4 := hi.c4.cell
    have f4 := hi.c4.frozen
    have c5 := hi.c5.cell
    have f5 := hi.c5.frozen
    have HI := Lib.hid hi
    clear hi hr hNlt
    gi_wp2
    refine ⟨((KeepsOthers.setCell _ _ _).trans (KeepsOthers.setCell _ _ _)).from _, kpR_set _ _ _, rfl, ⟨HI.out.bel.trans (kpR_set (b := w.heap.size) _ _ _).bel, ?_, ?_⟩⟩
    · exact Boxed.other (HI.out.c4.set _) (by omega) _
    · have q5 := Boxed.other HI.out.c5 (by omega : w.heap.size + 1 + 1 ≠ w.heap.size + 1) (.slice none 0 0)
      exact q5.set _
  case done =>
    rintro D ys W hD rfl ⟨h, _⟩ hK
    cases h
  case stop =>
    rintro D cd pre W hD rfl ⟨rfl, hi⟩ hK
    have hDD : w.heap.size + 6 ≤ D := by have := Z9.out; omega
    gi_wp2
    refine ⟨by simp, .inl ⟨_, _, rfl, run_takeDeferred hK, ?_⟩⟩
    have hpg := grownBy_putObj' W D (.deferred none)
    have hnD : ∀ k t u, Boxed W k t u → some k ≠ some D := fun k t u hb e => by
      cases e
      rw [show W.heap[D]? = _ from hb] at hK
      cases hK
    have r4 := hi.c4.kept hpg (hnD _ _ _ hi.c4)
    have r5 := hi.c5.kept hpg (hnD _ _ _ hi.c5)
    refine ⟨.tuple #[.slice none 0 0, .int .i64 1], results_cellsA2 (p := 4) (q := 5) rfl _ _ ⟨w.heap.size + 1, 0, none⟩ ⟨w.heap.size + 1 + 1, 0, none⟩ _ _ rfl rfl (run_loadVar_one _ _ _ _ _ Try.underlying24 rfl r4.cell) (run_loadVar_one _ _ _ _ _ Try.underlying28 rfl r5.cell), rfl, ?_⟩
    refine ⟨hi.bel.os, hi.bel.tape, hi.bel.output, Nat.le_trans hi.bel.size hpg.size, fun k hk => ?_⟩
    have h1 := hi.bel.block k hk
    have h3 := hpg.block k (Nat.lt_of_lt_of_le hk hi.bel.size) (fun e => by cases e; omega)
    exact h3.trans h1
end Go.Proofs.Ytgkddhncfaeidaa

namespace Go.Proofs.Ytgkddhncfaeidaa
open Go.RowKit Go.ChangeShapes Go.WideShapes Go.ChangeAt CrcM PageM
set_option linter.unusedVariables false

/-- Behind an entry that ends at the range's end or later there is none of the range. -/
theorem ents_brk {k s : Nat} {S f t : Int} : ∀ q x r, ents k s = q ++ x :: r → brkP S t x → ∀ y ∈ r, selB S f t y = false := fun q x r he hb y hy => by
  have hx : (ents k s)[q.length]? = some x := by rw [he]; simp
  obtain ⟨h1, rfl⟩ := ents_inv hx
  obtain ⟨j, hj⟩ := List.mem_iff_getElem?.1 hy
  have hy2 : (ents k s)[q.length + (j + 1)]? = some y := by
    rw [he, List.getElem?_append_right (by omega)]
    simpa using hj
  obtain ⟨h2, rfl⟩ := ents_inv hy2
  obtain ⟨i, hi⟩ : ∃ i, i = q.length := ⟨_, rfl⟩
  rw [← hi] at hb ⊢
  obtain ⟨i', hi'⟩ : ∃ i', i' = i + (j + 1) := ⟨_, rfl⟩
  rw [← hi']
  have hlt : i < i' := by omega
  have hse : (entI s i).se = ((i / 30 : Nat) : Int) := rfl
  have hse' : (entI s i').se = ((i' / 30 : Nat) : Int) := rfl
  have hd : i / 30 ≤ i' / 30 := Nat.div_le_div_right (by omega)
  unfold selB
  rw [Bool.and_eq_false_iff, Bool.and_eq_false_iff]
  rcases hb with hb | ⟨hb, hb2⟩
  · left
    rw [beq_eq_false_iff_ne, hse']
    rw [hse] at hb
    omega
  · by_cases h3 : (entI s i').se = S
    · right; left
      have hen : (entI s i).en < (entI s i').st := by
        have e1 : i' / 30 = i / 30 := by rw [hse] at hb; rw [hse'] at h3; omega
        have e2 : i % 30 + 1 ≤ i' % 30 := by omega
        have h4 := Nat.mod_lt i (by omega : 0 < s + 1)
        have h5 := up_nums (a := i % 30) (f := i % (s + 1)) rfl h4 rfl rfl
        have h6 : (i % 30 + 1) * (s + 1) ≤ i' % 30 * (s + 1) := Nat.mul_le_mul_right _ e2
        exact Int.ofNat_lt.2 (Nat.lt_of_lt_of_le h5 h6)
      exact decide_eq_false (by omega)
    · left
      exact beq_eq_false_iff_ne.2 h3
/-- Which entries the law wants. -/
def selW (S f t : Int) (x : EntD) : Bool := decide (f ≤ t) && selB S f t x
theorem spans_tree (gv a hh k s : Nat) (hk : k ≤ 150) (S f t : Int) (w : World) (h : TreeAt w gv a hh (ents k s)) :
    Calls Try.prog 32 #[.pointer (some ⟨gv, 0, none⟩), .agg #[.int .i64 (a : Int), .int .i64 (hh : Int)], .int .i64 S, .int .i64 f, .int .i64 t] w fun e w' => ∃ A c, e = .returned (.tuple #[.slice A ((ents k s).filter (selW S f t)).length c, .int .i64 0]) ∧ EnAt w' A ((ents k s).filter (selW S f t)) ∧ Below w.heap.size w w' := by
  have h5 := h.hh5
  by_cases hft : f ≤ t
  · have hsel : selW S f t = selB S f t := by funext x; unfold selW; rw [decide_eq_true hft, Bool.true_and]
    rw [hsel]
    obtain ⟨U, g, B, N, gs, gn, Ls, cs, cn, rw, st, nw, ws, hv, hd, ht⟩ := h
    have hc := cntR_le hh (ents k s).length h5
    rw [ents_len] at hc
    refine (callsIn_wide.1 (spans_go gv g 1 200 a hh U map0 (ents k s) ht (by rw [ents_len]; omega) (by rw [ents_len]; omega) S f t hft ents_brk w hv hd)).mono ?_
    rintro e w' ⟨⟨A, c, h1, h2⟩, hb⟩
    exact ⟨A, c, h1, EnAt.of_row h2, hb⟩
  · have hsel : (ents k s).filter (selW S f t) = [] := List.filter_eq_nil_iff.2 (fun x _ => by unfold selW; rw [decide_eq_false hft]; simp)
    rw [hsel]
    refine (callsIn_wide.1 (spans_none gv a hh S f t h5 (by omega) w)).mono ?_
    rintro e w' ⟨rfl, hb⟩
    exact ⟨none, 0, rfl, fun h => absurd rfl h, hb⟩
theorem filter_take {α : Type} {P : α → Bool} {l : List α} {i : Nat} {x : α} (h : l[i]? = some x) : (l.take (i + 1)).filter P = (l.take i).filter P ++ (if P x then [x] else []) := by
  rw [take_snoc h, List.filter_append]
  congr 1
  by_cases hp : P x = true
  · simp [hp]
  · simp [hp]

set_option maxRecDepth 100000 in
set_option maxHeartbeats 16000000 in
theorem walkSpans_walk (n0 n1 S f t : Int) (w : World) :
    Calls Try.prog 7 #[.agg #[.int .i64 n0, .int .i64 n1], .int .i64 S, .agg #[.int .i64 f, .int .i64 t]] w fun e w' => e = .returned (.bool true) ∧ Below w.heap.size w w' := by
  obtain ⟨k, hk, hke⟩ := modW n0 100 (by decide) (by decide)
  obtain ⟨s, hs, hse⟩ := modW n1 9 (by decide) (by decide)
  have HK := Lib.hid hk
  have HS := Lib.hid hs
  have HKE : Hid (wrap64 ((IntKind.u64.wrap n0).tmod 100) = (k : Int)) := Lib.hid hke
  have HSE : Hid (wrap64 ((IntKind.u64.wrap n1).tmod 9) = (s : Int)) := Lib.hid hse
  clear hke hse hk hs
  obtain ⟨w1, hw1⟩ : ∃ w1, w1 = (w.alloc (.cells #[.int .i64 n0, .int .i64 n1] 54)).alloc (.cells #[.int .i64 f, .int .i64 t] 80) := ⟨_, rfl⟩
  have GN : Hid (w1.heap[w.heap.size]? = some (.cells #[.int .i64 n0, .int .i64 n1] 54 (0, 0))) := Lib.hid (by rw [hw1]; exact heap_alloc2_old _ _ _)
  have GE : Hid (w1.heap[w.heap.size + 1]? = some (.cells #[.int .i64 f, .int .i64 t] 80 (0, 0))) := Lib.hid (by rw [hw1]; exact heap_alloc2_new _ _ _)
  have B1 : Hid (Below w.heap.size w w1) := Lib.hid (by rw [hw1]; exact below_two (Below.refl _ _))
  have HW1 := Lib.hid hw1
  clear hw1
  go_enter Try.func7, Try.ntmps7
  go_upto_region 1 with fail
  rw [← HW1.out]
  have n_0 : ∀ y : SubW w1.heap.size w1, y.at_.cell? ⟨w.heap.size, 0, none⟩ = some (.int .i64 n0) := fun y => nd_cell (row_stays GN.out y.ok_) 0 _ rfl
  have n_1 : ∀ y : SubW w1.heap.size w1, y.at_.cell? ⟨w.heap.size, 1, none⟩ = some (.int .i64 n1) := fun y => nd_cell (row_stays GN.out y.ok_) 1 _ rfl
  refine region_below w1.heap.size w1 (Below.refl _ _) (by kernel_rfl) (by kernel_rfl) ?_
  repeat (go_big_quiet_step (fail))
  refine wpQuiet_nil ?_
  rintro w' ⟨y, rfl⟩
  have GE2 := Lib.hid (row_stays GE.out y.ok_)
  have BY : Hid (Below w.heap.size w y.at_) := Lib.hid (B1.out.trans (y.ok_.mono B1.out.size))
  obtain ⟨w2, hw2⟩ : ∃ w2, w2 = y.at_ := ⟨_, rfl⟩
  rw [← hw2] at GE2 BY ⊢
  rw [HKE.out, HSE.out]
  clear hw2 n_0 n_1 HKE HSE GN GE HW1
  go_upto_region 4 with (go_at_call 23; refine (walks_any w2).mono ?_; rintro e w3 ⟨rfl, hb⟩; have B23 := Lib.hid hb; clear hb)
  have HBU : Hid (Calls Try.prog 24 #[.int .i64 (k : Int), .int .i64 (s : Int)] w3 fun e w' => ∃ (gv a hh : Nat) (A : Option Addr) (c : Nat), e = .returned (.tuple #[.pointer (some ⟨gv, 0, none⟩), .agg #[.int .i64 (a : Int), .int .i64 (hh : Int)], .slice A k c, .bool true]) ∧
      TreeAt w' gv a hh (ents k s) ∧ w'.ownsRow w3.heap.size 51 8 (.slice A k c) k ((ents k s).flatMap enC) ∧ Below w3.heap.size w3 w') := Lib.hid (build_any k s (by have := HK.out; omega) (by have := HS.out; omega) w3)
  go_upto_region 5 with (go_at_call 24; refine HBU.out.mono ?_; rintro e w4 ⟨gv, ra, hh, A, c, rfl, ht, hr, hb⟩; have T4 := Lib.hid ht; have R4 := Lib.hid hr; have B34 := Lib.hid hb; clear ht hr hb HBU)
  obtain ⟨w5, hw5⟩ : ∃ w5, w5 = w4.alloc (.cells #[.int .i64 (ra : Int), .int .i64 (hh : Int)] 63) := ⟨_, rfl⟩
  have GR5 : Hid (w5.heap[w4.heap.size]? = some (.cells #[.int .i64 (ra : Int), .int .i64 (hh : Int)] 63 (0, 0))) := Lib.hid (by rw [hw5]; exact heap_alloc_new _ _)
  have B45 := Lib.hid (alloc_bel hw5)
  rw [← hw5]
  clear hw5
  have B24 : Hid (Below w2.heap.size w2 w4) := Lib.hid (B23.out.trans (B34.out.mono B23.out.size))
  have B25 : Hid (Below w2.heap.size w2 w5) := Lib.hid (B24.out.trans (B45.out.mono B24.out.size))
  have BW5 : Hid (Below w.heap.size w w5) := Lib.hid (BY.out.trans (B25.out.mono BY.out.size))
  have GE5 := Lib.hid (row_stays GE2.out B25.out)
  have T5 := Lib.hid (T4.out.below B45.out)
  have E5 : Hid (EnAt w5 A (ents k s)) := Lib.hid (EnAt.of_row (row_below R4.out B45.out))
  have q0 := nd_cell GE5.out 0 (.int .i64 f) rfl
  have q1 := nd_cell GE5.out 1 (.int .i64 t) rfl
  obtain ⟨es, hes⟩ : ∃ es, es = ents k s := ⟨_, rfl⟩
  have HSP := Lib.hid (spans_tree gv ra hh k s (by have := HK.out; omega) S f t w5 T5.out)
  obtain ⟨fl, hfl⟩ : ∃ fl, fl = (ents k s).filter (selW S f t) := ⟨_, rfl⟩
  obtain ⟨m, hm⟩ : ∃ m, m = fl.length := ⟨_, rfl⟩
  rw [← hfl, ← hm] at HSP
  rw [← hes] at hfl E5
  have HES := Lib.hid hes
  have HFL := Lib.hid hfl
  have HM := Lib.hid hm
  have HKL : Hid (es.length = k) := Lib.hid (by rw [hes]; exact ents_len k s)
  have HMK : Hid (m ≤ k) := Lib.hid (by rw [hm, hfl]; exact Nat.le_trans (List.length_filter_le _ _) (Nat.le_of_eq (by rw [hes]; exact ents_len k s)))
  clear hes hfl hm B23 B34 B24 T4 R4 B45 BY GE2
  go_upto_region 8 with (first
    | (refine wpList_load_row rfl 63 (.tmp 10) rfl w4.heap.size rfl 63 _ (0, 0) _ GR5.out Try.underlying63 rfl (by kernel_rfl) ?_)
    | (go_at_call 32; refine HSP.out.mono ?_; rintro e w6 ⟨A6, c6, rfl, hr, hb⟩; have E6 := Lib.hid hr; have B56 := Lib.hid hb; clear hr hb HSP))
  clear q0 q1
  have GE6 := Lib.hid (row_stays GE5.out B56.out)
  have GR6 := Lib.hid (row_stays GR5.out B56.out)
  have EA6 := Lib.hid (E5.out.below B56.out)
  have BW6 : Hid (Below w.heap.size w w6) := Lib.hid (BW5.out.trans (B56.out.mono BW5.out.size))
  obtain ⟨ie, hie, hiez, hies, hieb⟩ := info_parts (infoEnt_from_any)
  go_upto_region 10 with fail
  go_loopw [15, 16] (fun wv iv wr => ∃ (i : Nat) (Aw : Option Addr) (cw j : Nat), i ≤ k ∧ wv = .slice Aw j cw ∧ iv = .int .i64 (i : Int) ∧ Hid (j = ((es.take i).filter (selW S f t)).length) ∧ Hid (wr.ownsRow w6.heap.size 51 8 (.slice Aw j cw) j (((es.take i).filter (selW S f t)).flatMap enC)) ∧ Hid (Below w6.heap.size w6 wr)) (fun _ iv _ => k - (intOf iv).toNat)
  case atStart => exact ⟨0, none, 0, 0, Nat.zero_le _, rfl, rfl, Lib.hid rfl, Lib.hid (World.ownsRow_nil _ _ _ _), Lib.hid (Below.refl _ _)⟩
  case round =>
    obtain ⟨i, Aw, cw, j, hi, rfl, rfl, HJ, HR, HB⟩ := hrel
    obtain ⟨W0, rfl⟩ : ∃ W0, W0 = wr := ⟨_, rfl⟩
    have hk100 : k < 100 := HK.out
    have hjk : j ≤ 100 := by
      rw [HJ.out]
      refine Nat.le_trans (List.length_filter_le _ _) ?_
      rw [List.length_take]
      omega
    by_cases hlt : i < k
    · obtain ⟨e, he⟩ : ∃ e, es[i]? = some e := ⟨_, List.getElem?_eq_getElem (by rw [HKL.out]; exact hlt)⟩
      obtain ⟨b1, o1, hA1, hc0⟩ := (EA6.out.below HB.out) (by intro e'; have h' := HKL.out; rw [e'] at h'; simp at h'; omega)
      obtain ⟨z0, z1, z2, z3, z4, z5, z6, z7⟩ := hc0 i e he
      have hl1 := World.block_lt_of_cell? _ _ z0
      subst hA1
      have GE0 := Lib.hid (row_stays GE6.out HB.out)
      have r0 : ∀ y : SubW W0.heap.size W0, y.at_.cell? ⟨w.heap.size + 1, 0, none⟩ = some (.int .i64 f) := fun y => nd_cell (row_stays GE0.out y.ok_) 0 _ rfl
      have r1 : ∀ y : SubW W0.heap.size W0, y.at_.cell? ⟨w.heap.size + 1, 1, none⟩ = some (.int .i64 t) := fun y => nd_cell (row_stays GE0.out y.ok_) 1 _ rfl
      have P0 : ∀ y : SubW W0.heap.size W0, y.at_.cell? ⟨b1, o1 + i * 8, none⟩ = some (.int .i64 e.se) := fun y => (y.ok_.cell (p := ⟨b1, o1 + i * 8, none⟩) hl1).trans z0
      have P1 : ∀ y : SubW W0.heap.size W0, y.at_.cell? ⟨b1, o1 + i * 8 + 1, none⟩ = some (.int .i64 e.st) := fun y => (y.ok_.cell (p := ⟨b1, o1 + i * 8 + 1, none⟩) hl1).trans z1
      have P2 : ∀ y : SubW W0.heap.size W0, y.at_.cell? ⟨b1, o1 + i * 8 + 2, none⟩ = some (.int .i64 e.en) := fun y => (y.ok_.cell (p := ⟨b1, o1 + i * 8 + 2, none⟩) hl1).trans z2
      have P3 : ∀ y : SubW W0.heap.size W0, y.at_.cell? ⟨b1, o1 + i * 8 + 3, none⟩ = some (.int .i64 e.ad) := fun y => (y.ok_.cell (p := ⟨b1, o1 + i * 8 + 3, none⟩) hl1).trans z3
      have P4 : ∀ y : SubW W0.heap.size W0, y.at_.cell? ⟨b1, o1 + i * 8 + 4, none⟩ = some (.int .i64 e.le) := fun y => (y.ok_.cell (p := ⟨b1, o1 + i * 8 + 4, none⟩) hl1).trans z4
      have P5 : ∀ y : SubW W0.heap.size W0, y.at_.cell? ⟨b1, o1 + i * 8 + 5, none⟩ = some (.int .i64 e.cn) := fun y => (y.ok_.cell (p := ⟨b1, o1 + i * 8 + 5, none⟩) hl1).trans z5
      have P6 : ∀ y : SubW W0.heap.size W0, y.at_.cell? ⟨b1, o1 + i * 8 + 6, none⟩ = some (.int .i64 e.co) := fun y => (y.ok_.cell (p := ⟨b1, o1 + i * 8 + 6, none⟩) hl1).trans z6
      have P7 : ∀ y : SubW W0.heap.size W0, y.at_.cell? ⟨b1, o1 + i * 8 + 7, none⟩ = some (.int .u32 e.cr) := fun y => (y.ok_.cell (p := ⟨b1, o1 + i * 8 + 7, none⟩) hl1).trans z7
      have HE := Lib.hid he
      clear z0 z1 z2 z3 z4 z5 z6 z7 hl1 hc0 he
      go_upto_region 12 with fail
      by_cases h0 : f ≤ t
      · have d0 : decide (f ≤ t) = true := decide_eq_true h0
        by_cases h1 : e.se = S
        · have d1 : (e.se == S) = true := by rw [h1]; exact beq_self_eq_true _
          by_cases h2 : e.st ≤ t
          · have d2 : decide (e.st ≤ t) = true := decide_eq_true h2
            by_cases h3 : f ≤ e.en
            · have d3 : decide (e.en ≥ f) = true := decide_eq_true h3
              have HSL : Hid (selW S f t e = true) := Lib.hid (by unfold selW selB; rw [d0, d1, d2, decide_eq_true h3]; rfl)
              clear h0 h1 h2 h3
              refine region_below W0.heap.size W0 (Below.refl _ _) (by kernel_rfl) (by kernel_rfl) ?_
              repeat (go_big_quiet_step (fail))
              refine wpQuiet_nil ?_
              rintro w' ⟨y, rfl⟩
              have HBY : Hid (Below w6.heap.size w6 y.at_) := Lib.hid (HB.out.trans (y.ok_.mono HB.out.size))
              have HRY := Lib.hid (row_below HR.out y.ok_)
              have z0 := P0 y
              have z1 := P1 y
              have z2 := P2 y
              have z3 := P3 y
              have z4 := P4 y
              have z5 := P5 y
              have z6 := P6 y
              have z7 := P7 y
              obtain ⟨V0, hV0⟩ : ∃ V0, V0 = y.at_ := ⟨_, rfl⟩
              rw [← hV0] at z0 z1 z2 z3 z4 z5 z6 z7 HBY HRY ⊢
              clear hV0 r0 r1 P0 P1 P2 P3 P4 P5 P6 P7
              have hfill : Hid (Instr.fill (fun i => some (i * ie.size, ie.size)) ((Array.range (1 * ie.size)).map ((Value.agg #[.int .i64 0, .int .i64 0, .int .i64 0, .int .i64 0, .int .i64 0, .int .i64 0, .int .i64 0, .int .u32 0]).cells[· % (Value.agg #[.int .i64 0, .int .i64 0, .int .i64 0, .int .i64 0, .int .i64 0, .int .i64 0, .int .i64 0, .int .u32 0]).cells.size]!)) [(0, .agg #[.int .i64 e.se, .int .i64 e.st, .int .i64 e.en, .int .i64 e.ad, .int .i64 e.le, .int .i64 e.cn, .int .i64 e.co, .int .u32 e.cr])] = some #[.int .i64 e.se, .int .i64 e.st, .int .i64 e.en, .int .i64 e.ad, .int .i64 e.le, .int .i64 e.cn, .int .i64 e.co, .int .u32 e.cr]) := Lib.hid (by rw [hies]; exact fill_eight _ _ rfl (by simp))
              go_wp2_with (first
                | (refine wpList_buildSlice rfl 22 51 1 _ rfl #[.int .i64 e.se, .int .i64 e.st, .int .i64 e.en, .int .i64 e.ad, .int .i64 e.le, .int .i64 e.cn, .int .i64 e.co, .int .u32 e.cr] ie _ Try.underlying22 hie hiez (by rw [hies]; decide) (by rw [hies]; decide) (by rw [Array.toList_map]; exact hfill.out) ?_)
                | (at_builtin; refine wpList_append_row rfl (.tmp 96) (.tmp 101) 22 rfl Try.underlying22 (Value.agg #[.int .i64 0, .int .i64 0, .int .i64 0, .int .i64 0, .int .i64 0, .int .i64 0, .int .i64 0, .int .u32 0]) 64 infoEnt_from_any (by rfl) (by decide) _ rfl (row_below HRY.out ((Below.refl _ _).alloc (Nat.le_refl _) (.cells #[.int .i64 e.se, .int .i64 e.st, .int .i64 e.en, .int .i64 e.ad, .int .i64 e.le, .int .i64 e.cn, .int .i64 e.co, .int .u32 e.cr] 51))) (some ⟨V0.heap.size, 0, none⟩) 1 1 rfl rfl (cellsAt_new V0 (enC e) _) (enC_one e) (by omega) (by unfold maxLen; omega) (by have := HBY.out.size; simp; omega) (j + 1) rfl _ rfl ?_; intro A3 c3 x3 ho3 hg3; have HR3 := Lib.hid ho3; have HB3 := Lib.hid ((HBY.out.alloc HBY.out.size (.cells #[.int .i64 e.se, .int .i64 e.st, .int .i64 e.en, .int .i64 e.ad, .int .i64 e.le, .int .i64 e.cn, .int .i64 e.co, .int .u32 e.cr] 51)).grown hg3 (by have := HBY.out.size; simp; omega) (fun j hj => (World.ownsRow.lt HRY.out j hj).1)); clear ho3 hg3))
              go_roundw
              case rel => exact ⟨i + 1, A3, c3, j + 1, by omega, rfl, by go_num, Lib.hid (by rw [filter_take HE.out, HSL.out, List.length_append, ← HJ.out]; rfl), Lib.hid (by rw [filter_take HE.out, HSL.out, List.flatMap_append]; simpa using HR3.out), HB3⟩
              case measure => first | (simp [intOf]; done) | (simp [intOf]; omega)
            · have d3 : decide (e.en ≥ f) = false := decide_eq_false h3
              have HSL : Hid (selW S f t e = false) := Lib.hid (by unfold selW selB; rw [d0, d1, d2, decide_eq_false h3]; rfl)
              clear h0 h1 h2 h3
              refine region_below W0.heap.size W0 (Below.refl _ _) (by kernel_rfl) (by kernel_rfl) ?_
              repeat (go_big_quiet_step (fail))
              refine wpQuiet_nil ?_
              rintro w' ⟨y, rfl⟩
              have HBY : Hid (Below w6.heap.size w6 y.at_) := Lib.hid (HB.out.trans (y.ok_.mono HB.out.size))
              have HRY := Lib.hid (row_below HR.out y.ok_)
              clear r0 r1 P0 P1 P2 P3 P4 P5 P6 P7
              go_wp2_with fail
              go_roundw
              case rel => exact ⟨i + 1, Aw, cw, j, by omega, rfl, by go_num, Lib.hid (by rw [filter_take HE.out, HSL.out]; simpa using HJ.out), Lib.hid (by rw [filter_take HE.out, HSL.out]; simpa using HRY.out), HBY⟩
              case measure => first | (simp [intOf]; done) | (simp [intOf]; omega)
          · have d2 : decide (e.st ≤ t) = false := decide_eq_false h2
            have HSL : Hid (selW S f t e = false) := Lib.hid (by unfold selW selB; rw [d0, d1, d2]; rfl)
            clear h0 h1 h2
            refine region_below W0.heap.size W0 (Below.refl _ _) (by kernel_rfl) (by kernel_rfl) ?_
            repeat (go_big_quiet_step (fail))
            refine wpQuiet_nil ?_
            rintro w' ⟨y, rfl⟩
            have HBY : Hid (Below w6.heap.size w6 y.at_) := Lib.hid (HB.out.trans (y.ok_.mono HB.out.size))
            have HRY := Lib.hid (row_below HR.out y.ok_)
            clear r0 r1 P0 P1 P2 P3 P4 P5 P6 P7
            go_wp2_with fail
            go_roundw
            case rel => exact ⟨i + 1, Aw, cw, j, by omega, rfl, by go_num, Lib.hid (by rw [filter_take HE.out, HSL.out]; simpa using HJ.out), Lib.hid (by rw [filter_take HE.out, HSL.out]; simpa using HRY.out), HBY⟩
            case measure => first | (simp [intOf]; done) | (simp [intOf]; omega)
        · have d1 : (e.se == S) = false := beq_eq_false_iff_ne.2 h1
          have HSL : Hid (selW S f t e = false) := Lib.hid (by unfold selW selB; rw [d0, d1]; rfl)
          clear h0 h1
          refine region_below W0.heap.size W0 (Below.refl _ _) (by kernel_rfl) (by kernel_rfl) ?_
          repeat (go_big_quiet_step (fail))
          refine wpQuiet_nil ?_
          rintro w' ⟨y, rfl⟩
          have HBY : Hid (Below w6.heap.size w6 y.at_) := Lib.hid (HB.out.trans (y.ok_.mono HB.out.size))
          have HRY := Lib.hid (row_below HR.out y.ok_)
          clear r0 r1 P0 P1 P2 P3 P4 P5 P6 P7
          go_wp2_with fail
          go_roundw
          case rel => exact ⟨i + 1, Aw, cw, j, by omega, rfl, by go_num, Lib.hid (by rw [filter_take HE.out, HSL.out]; simpa using HJ.out), Lib.hid (by rw [filter_take HE.out, HSL.out]; simpa using HRY.out), HBY⟩
          case measure => first | (simp [intOf]; done) | (simp [intOf]; omega)
      · have d0 : decide (f ≤ t) = false := decide_eq_false h0
        have HSL : Hid (selW S f t e = false) := Lib.hid (by unfold selW; rw [d0]; rfl)
        clear h0
        refine region_below W0.heap.size W0 (Below.refl _ _) (by kernel_rfl) (by kernel_rfl) ?_
        repeat (go_big_quiet_step (fail))
        refine wpQuiet_nil ?_
        rintro w' ⟨y, rfl⟩
        have HBY : Hid (Below w6.heap.size w6 y.at_) := Lib.hid (HB.out.trans (y.ok_.mono HB.out.size))
        have HRY := Lib.hid (row_below HR.out y.ok_)
        clear r0 r1 P0 P1 P2 P3 P4 P5 P6 P7
        go_wp2_with fail
        go_roundw
        case rel => exact ⟨i + 1, Aw, cw, j, by omega, rfl, by go_num, Lib.hid (by rw [filter_take HE.out, HSL.out]; simpa using HJ.out), Lib.hid (by rw [filter_take HE.out, HSL.out]; simpa using HRY.out), HBY⟩
        case measure => first | (simp [intOf]; done) | (simp [intOf]; omega)
    · obtain rfl : i = k := by omega
      have hdk : decide ((i : Int) < (i : Int)) = false := by simp
      have hjm : j = m := by
        rw [HJ.out, HM.out, HFL.out]
        have h' := HKL.out
        rw [← h', List.take_length]
      have RW : Hid (EnAt W0 Aw fl) := Lib.hid (by
        have h1 := HR.out
        have h' := HKL.out
        rw [← h', List.take_length, ← HFL.out] at h1
        exact EnAt.of_row h1)
      have GR0 := Lib.hid (row_stays GR6.out HB.out)
      have E60 := Lib.hid (E6.out.below HB.out)
      subst hjm
      have HML : Hid (fl.length = j) := Lib.hid HM.out.symm
      have HJM : Hid (j ≤ 1000000) := Lib.hid (by omega)
      clear HM
      go_upto_region 16 with (first
        | (refine wpList_load_row rfl 63 (.tmp 10) rfl w4.heap.size rfl 63 _ (0, 0) _ GR0.out Try.underlying63 rfl (by kernel_rfl) ?_)
        | (go_at_call 32; refine (callsIn_wide.1 (spans_nil (ra : Int) (hh : Int) S 0 1 W0)).mono ?_; rintro e w7 ⟨rfl, hb⟩; have B07 := Lib.hid hb; clear hb)
        | (go_at_call 29; refine (callsIn_wide.1 (series_err gv 0 9 (by decide) w7)).mono ?_; rintro e w8 ⟨rfl, hb⟩; have B08 := Lib.hid (B07.out.trans (hb.mono B07.out.size)); clear hb))
      have E68 := Lib.hid (E60.out.below B08.out)
      have RW8 := Lib.hid (RW.out.below B08.out)
      have BWW : Hid (Below w.heap.size w w8) := Lib.hid (BW6.out.trans ((HB.out.trans (B08.out.mono HB.out.size)).mono BW6.out.size))
      clear hdk
      go_wp2_with (first
        | (go_at_call 27; refine (back_list fl A6 j c6 w8 HML.out HJM.out E68.out).mono ?_; rintro e w9 ⟨A9, c9, rfl, hr, hb⟩; have R9 := Lib.hid hr; have B89 := Lib.hid hb; clear hr hb)
        | (go_at_call 26; refine (same_list fl A9 Aw j c9 cw w9 HML.out HJM.out (EnAt.of_row R9.out) (RW8.out.below B89.out)).mono ?_; rintro e w10 ⟨rfl, hb⟩; have B810 := Lib.hid (B89.out.trans (hb.mono B89.out.size)); clear hb))
      go_ret
      exact ⟨rfl, BWW.out.trans (B810.out.mono BWW.out.size)⟩
end Go.Proofs.Ytgkddhncfaeidaa
