/- WalkEntries: its walk. -/
import Derived.Test.YtgkddhncfaeidaaPart36
import Derived.Test.YtgkddhncfaeidaaPart37
import Derived.Test.YtgkddhncfaeidaaTvSr
import Derived.Test.YtgkddhncfaeidaaTvNe
set_option linter.unusedSimpArgs false
set_option linter.unusedVariables false
namespace Go.Proofs.Ytgkddhncfaeidaa
open Go.RowKit Go.ChangeShapes Go.WideShapes Go.ChangeAt CrcM PageM
set_option linter.unusedVariables false
attribute [local go_sem] Oper.semAt_some

theorem take_int (gv a hh : Nat) (es : List EntD) (hle : es.length ≤ 1000) (m : Int) (hm : m ≤ 1000000) (w : World) (h : TreeAt w gv a hh es) :
    Calls Try.prog 25 #[.pointer (some ⟨gv, 0, none⟩), .agg #[.int .i64 (a : Int), .int .i64 (hh : Int)], .int .i64 m] w fun e w' => (∃ A c, e = .returned (.tuple #[.slice A (min m.toNat es.length) c, .int .i64 (cntR hh (min m.toNat es.length) : Int), .int .i64 0]) ∧ w'.ownsRow w.heap.size 77 8 (.slice A (min m.toNat es.length) c) (min m.toNat es.length) ((es.take m.toNat).flatMap enC)) ∧ Below w.heap.size w w' := by
  by_cases h1 : 1 ≤ m
  · have h2 := take_tree gv a hh es hle m.toNat (by omega) w h
    rw [Int.toNat_of_nonneg (by omega)] at h2
    exact h2
  · have h2 : m.toNat = 0 := by omega
    refine (callsIn_wide.1 (take_none gv a hh m (by omega) h.hh5 w)).mono ?_
    rintro e w' ⟨rfl, hb⟩
    rw [h2, Nat.zero_min]
    exact ⟨⟨none, 0, rfl, World.ownsRow_nil _ _ _ _⟩, hb⟩
theorem nodes_tree {W : World} {gv a hh k s P : Nat} (h : TreeAt W gv a hh (ents k s)) (hk : k ≤ 150) (hP : P ≤ k) (w : World) :
    Calls Try.prog 28 #[.int .i64 (k : Int), .int .i64 (P : Int)] w fun e w' => e = .returned (.int .i64 (cntR hh P : Int)) ∧ Below w.heap.size w w' := by
  by_cases h0 : P = 0
  · have h1 := refNodes_zero k P (.inr h0) w
    have h2 : cntR hh P = 0 := by unfold cntR; rw [if_pos h0]
    rw [h2]
    exact h1
  · obtain ⟨U, g, B, N, gs, gn, Ls, cs, cn, rw, st, nw, ws, _, _, ht⟩ := h
    rcases ht with ⟨e, _⟩ | ⟨h, n, rfl, e2, _, _, _, e6, e7⟩
    · exfalso
      have h1 := congrArg List.length e
      rw [ents_len] at h1
      simp at h1
      omega
    · rw [ents_len] at e6 e7
      exact refNodes_tree h k P (by omega) (by omega) hP (by omega) e2 e6 e7 w
theorem series_tree (gv a hh k s : Nat) (hk : k ≤ 150) (w : World) (h : TreeAt w gv a hh (ents k s)) :
    Calls Try.prog 29 #[.pointer (some ⟨gv, 0, none⟩), .agg #[.int .i64 (a : Int), .int .i64 (hh : Int)]] w fun e w' => (∃ A c, e = .returned (.tuple #[.slice A ((k + 29) / 30) c, .int .i64 0]) ∧ w'.ownsRow w.heap.size 3 1 (.slice A ((k + 29) / 30) c) ((k + 29) / 30) ((List.range ((k + 29) / 30)).map fun i => kdC ((i : Nat) : Int))) ∧ Below w.heap.size w w' := by
  have h5 := h.hh5
  obtain ⟨U, g, B, N, gs, gn, Ls, cs, cn, rw, st, nw, ws, hv, hd, ht⟩ := h
  have hc := cntR_le hh (ents k s).length h5
  rw [ents_len] at hc
  refine (callsIn_wide.1 (series_go gv g 1 200 a hh U map0 (ents k s) ht (by rw [ents_len]; omega) (by rw [ents_len]; omega) w hv hd)).mono ?_
  rintro e w' ⟨⟨A, c, h1, h2⟩, hb⟩
  rw [serOf_ents] at h1 h2
  simp only [List.length_map, List.length_range, List.map_map] at h1 h2
  exact ⟨⟨A, c, h1, h2⟩, hb⟩

/-- What the loop's own block is. -/
def ownB (Bl : Nat) (W : World) (k : Nat) : Prop := k = Bl
theorem kpB_put {n₀ Bl b : Nat} (hB : Bl < b) (hn : n₀ ≤ b) (W : World) (l : Nat) (o o' : Obj) (hl : b ≤ l) (h : W.heap[l]? = some o) (hc : o.isCells = false) : KpC n₀ (ownB Bl) W (W.putObj l o') where
  bel := ⟨rfl, rfl, rfl, by simp [World.putObj], fun k hk => World.putObj_heap_other (by omega)⟩
  keep := fun k cs T fr hk _ => World.putObj_heap_other (fun e => by
    subst e
    rw [hk] at h
    cases h
    cases hc)
  own := fun k hk => .inl hk
theorem kpB_below {n₀ Bl : Nat} {A B : World} (h : Below A.heap.size A B) (hn : n₀ ≤ A.heap.size) : KpC n₀ (ownB Bl) A B where
  bel := h.mono hn
  keep := fun k cs T fr hk _ => h.block k (Array.getElem?_eq_some_iff.1 hk).1
  own := fun k hk => .inl hk
theorem kpB_set {n₀ Bl : Nat} (hn : n₀ ≤ Bl) (W : World) (v : Value) : KpC n₀ (ownB Bl) W (W.setCell ⟨Bl, 0, none⟩ v) where
  bel := (Below.refl n₀ W).setCell (p := ⟨Bl, 0, none⟩) hn v
  keep := fun k cs T fr hk hc => Below.heap_setCell W ⟨Bl, 0, none⟩ v k (fun e => hc e)
  own := fun k hk => .inl hk

theorem prefix_at {α : Type} {pre es : List α} {x : α} (h : pre ++ [x] <+: es) : es[pre.length]? = some x := by
  obtain ⟨t, rfl⟩ := h
  simp
theorem prefix_snoc {α : Type} {pre es : List α} {e : α} (h : pre <+: es) (he : es[pre.length]? = some e) : pre ++ [e] <+: es := by
  obtain ⟨t, rfl⟩ := h
  cases t with
  | nil => simp at he
  | cons y t =>
    simp at he
    subst he
    exact ⟨t, by simp⟩
theorem kpB_same {n₀ Bl b : Nat} {W : World} {t : TypeId} {v : Value} (hb : Boxed W b t v) : KpC n₀ (ownB Bl) W (W.setCell ⟨b, 0, none⟩ v) := by
  have h1 := hb.set v
  have hall : ∀ k, (W.setCell ⟨b, 0, none⟩ v).heap[k]? = W.heap[k]? := fun k => by
    by_cases hk : k = b
    · rw [hk]; exact h1.trans hb.symm
    · exact Below.heap_setCell W ⟨b, 0, none⟩ v k hk
  exact ⟨⟨rfl, rfl, rfl, by simp, fun k _ => hall k⟩, fun k cs T fr _ _ => hall k, fun k hk => .inl hk⟩
theorem results_cellB {P : Program} {fn : Func} {p : Tmp} {t1 : TypeId} (h : fn.results = #[.cell p t1]) (tmps : Array Value) (w : World) (a1 : Addr) (v1 : Value)
    (h1 : tmps.getD p undef = .pointer (some a1)) (l1 : (loadVar t1 a1).run P w = .ok v1 w) : (results fn tmps).run P w = .ok v1 w := by
  have e1 : tmps[p]?.getD undef = .pointer (some a1) := by simpa using h1
  simp [results, h, e1, asAddr, l1]
/-- The temporaries at a place of the walk, under a name. -/
theorem wp_named {P : Program} {c : Code} {Q : Exit → Act → World → Prop} {T : Array Value} {d : List Deferred} {w : World} (h : ∀ T0, T0 = T → c.wp P Q { tmps := T0, defers := d } w) : c.wp P Q { tmps := T, defers := d } w := h T rfl
/-- Between two rounds: what has come is how the entries begin. -/
structure EnI (Bl : Nat) (w0 : World) (es pre : List EntD) (W : World) : Prop where
  bel : Below w0.heap.size w0 W
  at_ : Boxed W Bl 3 (.int .i64 (pre.length : Int))
  pre : pre <+: es
theorem EnI.ck {Bl : Nat} {w0 A B : World} {es pre : List EntD} (h : EnI Bl w0 es pre A) (k : CK w0.heap.size A B) : EnI Bl w0 es pre B := ⟨h.bel.trans k.bel, (k.keep _ _ _ _ h.at_ (by decide)).trans h.at_, h.pre⟩
theorem EnI.ok {Bl : Nat} {w0 A : World} {es pre : List EntD} (h : EnI Bl w0 es pre A) : OkC w0.heap.size (ownB Bl) A := ⟨h.bel.size, fun k hk => by rw [show k = Bl from hk]; exact h.at_.lt⟩

set_option maxRecDepth 100000 in
set_option maxHeartbeats 16000000 in
theorem walkEntries_walk (n st mo : Int) (w : World) :
    Calls Try.prog 6 #[.int .i64 n, .int .i64 st, .int .i64 mo] w fun e w' => e = .returned (.bool true) ∧ Below w.heap.size w w' := by
  obtain ⟨k, hk, hke⟩ := modW n 150 (by decide) (by decide)
  obtain ⟨s, hs, hse⟩ := modW st 9 (by decide) (by decide)
  have HK := Lib.hid hk
  have HS := Lib.hid hs
  have hke' : wrap64 ((IntKind.u64.wrap n).tmod 150) = (k : Int) := hke
  have hse' : wrap64 ((IntKind.u64.wrap st).tmod 9) = (s : Int) := hse
  clear hke hse hk hs
  refine (callsIn_wide (n := 3)).1 ?_
  refine callsIn_of_wp_marks Try.func6 rfl trivial ?_ rfl
  simp only [Try.ntmps6, List.size_toArray, List.length_cons, List.length_nil, Nat.reduceAdd, Nat.reduceSub, Array.replicate_succ, Array.replicate_zero, List.push_toArray, List.append_toArray, List.nil_append, List.cons_append]
  refine wpIn_wide.2 ?_
  go_upto_region 1 with fail
  obtain ⟨w1, hw1⟩ : ∃ w1, w1 = w.alloc (.cells #[.bool false] 4) := ⟨_, rfl⟩
  have G1 : Hid (Boxed w1 w.heap.size 4 (.bool false)) := Lib.hid (by rw [hw1]; exact heap_alloc_new _ _)
  have B1 := Lib.hid (alloc_bel hw1)
  rw [← hw1]
  clear hw1
  go_upto_region 2 with fail
  rw [hke', hse']
  clear hke' hse'
  go_upto_region 4 with (go_at_call 23; refine (walks_any w1).mono ?_; rintro e w2 ⟨rfl, hb⟩; have B12 := Lib.hid hb; clear hb)
  have HBU : Hid (Calls Try.prog 24 #[.int .i64 (k : Int), .int .i64 (s : Int)] w2 fun e w' => ∃ (gv a hh : Nat) (A : Option Addr) (c : Nat), e = .returned (.tuple #[.pointer (some ⟨gv, 0, none⟩), .agg #[.int .i64 (a : Int), .int .i64 (hh : Int)], .slice A k c, .bool true]) ∧
      TreeAt w' gv a hh (ents k s) ∧ w'.ownsRow w2.heap.size 51 8 (.slice A k c) k ((ents k s).flatMap enC) ∧ Below w2.heap.size w2 w') := Lib.hid (build_any k s (by have := HK.out; omega) (by have := HS.out; omega) w2)
  go_upto_region 5 with (go_at_call 24; refine HBU.out.mono ?_; rintro e w3 ⟨gv, ra, hh, A, c, rfl, ht, hr, hb⟩; have T3 := Lib.hid ht; have R3 := Lib.hid hr; have B23 := Lib.hid hb; clear ht hr hb HBU)
  obtain ⟨gL, hgL⟩ : ∃ gL, gL = w3.heap.size + 1 := ⟨_, rfl⟩
  obtain ⟨w5, hw5⟩ : ∃ w5, w5 = (w3.alloc (.cells #[.int .i64 (ra : Int), .int .i64 (hh : Int)] 63)).alloc (.cells #[.slice A k c] 22) := ⟨_, rfl⟩
  have GR5 : Hid (w5.heap[w3.heap.size]? = some (.cells #[.int .i64 (ra : Int), .int .i64 (hh : Int)] 63 (0, 0))) := Lib.hid (by rw [hw5]; exact row_stays (heap_alloc_new _ _) (alloc_bel rfl))
  have GL5 : Hid (Boxed w5 gL 22 (.slice A k c)) := Lib.hid (by
    rw [hw5, hgL]
    have h1 := heap_alloc_new (w3.alloc (.cells #[.int .i64 (ra : Int), .int .i64 (hh : Int)] 63)) (.cells #[.slice A k c] 22)
    rw [World.size_alloc] at h1
    exact h1)
  have B35 : Hid (Below w3.heap.size w3 w5) := Lib.hid (by rw [hw5]; exact ((Below.refl _ _).alloc (Nat.le_refl _) _).alloc (by simp) _)
  rw [← hw5, ← hgL]
  clear hw5 hgL
  have T5 := Lib.hid (T3.out.below B35.out)
  have R5 := Lib.hid (row_below R3.out B35.out)
  have B13 : Hid (Below w1.heap.size w1 w3) := Lib.hid (B12.out.trans (B23.out.mono B12.out.size))
  have B15 : Hid (Below w1.heap.size w1 w5) := Lib.hid (B13.out.trans (B35.out.mono B13.out.size))
  have BW5 : Hid (Below w.heap.size w w5) := Lib.hid (B1.out.trans (B15.out.mono B1.out.size))
  have G15 : Hid (Boxed w5 w.heap.size 4 (.bool false)) := Lib.hid (row_stays G1.out B15.out)
  clear R3 T3 B12 B23 B35 B1 G1
  go_upto_region 8 with fail
  by_cases h2 : 200 < mo
  · have hd : decide (mo > 200) = true := by simpa using h2
    obtain ⟨M, hM⟩ : ∃ M, M = mo % 200 := ⟨_, rfl⟩
    have h3 : 0 ≤ mo % 200 := Int.emod_nonneg _ (by decide)
    have h4 : mo % 200 < 200 := Int.emod_lt_of_pos _ (by decide)
    have HM : Hid (M ≤ 200) := Lib.hid (by rw [hM]; omega)
    have h5 : mo.tmod 200 = M := by rw [Int.tmod_eq_emod_of_nonneg (by omega), hM]
    have H5 := Lib.hid h5
    clear h2 h3 h4 hM h5
    go_upto_region 10 with fail
    rw [H5.out]
    clear H5 hd
    obtain ⟨P, hP⟩ : ∃ P, P = min M.toNat k := ⟨_, rfl⟩
    have HTX : Hid (Calls Try.prog 25 #[.pointer (some ⟨gv, 0, none⟩), .agg #[.int .i64 (ra : Int), .int .i64 (hh : Int)], .int .i64 M] w5 fun e w' => ∃ A' c', e = .returned (.tuple #[.slice A' P c', .int .i64 (cntR hh P : Int), .int .i64 0]) ∧ w'.ownsRow w5.heap.size 77 8 (.slice A' P c') P ((ents P s).flatMap enC) ∧ Below w5.heap.size w5 w') := Lib.hid (by
      refine (take_int gv ra hh (ents k s) (by rw [ents_len]; have := HK.out; omega) M (by have := HM.out; omega) w5 T5.out).mono ?_
      rintro e w' ⟨⟨A', c', h1, h2⟩, h3⟩
      rw [ents_len, ← hP] at h1
      rw [ents_len, ents_take, ← hP] at h2
      exact ⟨A', c', h1, h2, h3⟩)
    have HPK : Hid (P ≤ k) := Lib.hid (by rw [hP]; exact Nat.min_le_right _ _)
    have HP := Lib.hid hP
    clear hP
    go_upto_region 11 with (first
      | (refine wpList_load_row rfl 63 (.tmp 10) rfl w3.heap.size rfl 63 _ (0, 0) _ GR5.out Try.underlying63 rfl (by kernel_rfl) ?_)
      | (go_at_call 25; refine HTX.out.mono ?_; rintro e w6 ⟨A6, c6, rfl, hr, hb⟩; have R6 := Lib.hid hr; have B56 := Lib.hid hb; clear hr hb HTX))
    have GL6 := Lib.hid (row_stays GL5.out B56.out)
    have k11 := nd_cell GL6.out 0 (.slice A k c) rfl
    obtain ⟨hcA, hcAm⟩ := row_cap R5.out
    have hcAm' : c ≤ 9223372036854775807 := hcAm
    have hmin : min (max M 0) (k : Int) = (P : Int) := by rw [HP.out]; omega
    have hmin2 : min (k : Int) (max M 0) = (P : Int) := by rw [HP.out]; omega
    have hPc : (P : Int) ≤ (c : Int) := by have := HPK.out; omega
    go_upto_region 12 with fail
    clear hmin hmin2 hPc k11
    have E6 : Hid (EnAt w6 A6 (ents P s)) := Lib.hid (EnAt.of_row R6.out)
    have EA6 : Hid (EnAt w6 A (ents k s)) := Lib.hid (EnAt.of_row (row_below R5.out B56.out))
    have HPM : Hid (P ≤ 1000000) := Lib.hid (by have := HPK.out; have := HK.out; omega)
    have HND : Hid (∀ W, Calls Try.prog 28 #[.int .i64 (k : Int), .int .i64 (P : Int)] W fun e w' => e = .returned (.int .i64 (cntR hh P : Int)) ∧ Below W.heap.size W w') := Lib.hid (fun W => nodes_tree T5.out (by have := HK.out; omega) HPK.out W)
    obtain ⟨cp, hcp⟩ : ∃ cp, cp = cntR hh P := ⟨_, rfl⟩
    rw [← hcp] at HND ⊢
    clear hcp
    go_upto_region 14 with (first
      | (go_at_call 27; refine (back_list (ents P s) A6 P c6 w6 (ents_len P s) HPM.out E6.out).mono ?_; rintro e w7 ⟨A7, c7, rfl, hr, hb⟩; have R7 := Lib.hid hr; have B67 := Lib.hid hb; clear hr hb)
      | (go_at_call 26; refine (same_list (ents P s) A7 A P c7 c w7 (ents_len P s) HPM.out (EnAt.of_row R7.out) (by
          have h1 := (EA6.out.below B67.out).take P
          rw [ents_take, Nat.min_eq_left HPK.out] at h1
          exact h1)).mono ?_; rintro e w8 ⟨rfl, hb⟩; have B68 := Lib.hid (B67.out.trans (hb.mono B67.out.size)); clear hb; have k12 := nd_cell (row_stays GL6.out B68.out) 0 (.slice A k c) rfl)
      | (go_at_call 28; refine (HND.out w8).mono ?_; rintro e w9 ⟨rfl, hb⟩; have B69 := Lib.hid (B68.out.trans (hb.mono B68.out.size)); clear hb))
    have B59 : Hid (Below w5.heap.size w5 w9) := Lib.hid (B56.out.trans (B69.out.mono B56.out.size))
    have GR9 := Lib.hid (row_stays GR5.out B59.out)
    have T9 := Lib.hid (T5.out.below B59.out)
    obtain ⟨N, hN⟩ : ∃ N, N = (k + 29) / 30 := ⟨_, rfl⟩
    have HSR := Lib.hid (series_tree gv ra hh k s (by have := HK.out; omega) w9 T9.out)
    rw [← hN] at HSR
    have hN3 : wrap64 (((k : Int) + 29).tdiv 30) = (N : Int) := by
      rw [Int.tdiv_eq_ediv_of_nonneg (by omega)]
      have h1 : ((k : Int) + 29) / 30 = (N : Int) := by rw [hN]; omega
      rw [h1]
      exact wrap_small (by omega) (by have := HK.out; rw [hN]; omega)
    have hN1 : wrap64 ((k : Int) + 29) = (k : Int) + 29 := wrap_small (by omega) (by have := HK.out; omega)
    have HN : Hid (N ≤ 10) := Lib.hid (by have := HK.out; rw [hN]; omega)
    clear hN E6 R6 HND k12
    go_upto_region 15 with (first
      | (refine wpList_load_row rfl 63 (.tmp 10) rfl w3.heap.size rfl 63 _ (0, 0) _ GR9.out Try.underlying63 rfl (by kernel_rfl) ?_)
      | (go_at_call 29; refine HSR.out.mono ?_; rintro e w10 ⟨⟨SA, sc, rfl, hr⟩, hb⟩; have RS := Lib.hid hr; have B910 := Lib.hid hb; clear hr hb HSR))
    go_upto_region 18 with fail
    go_loopw [20] (fun iv wr => ∃ i : Nat, i ≤ N ∧ iv = .int .i64 (i : Int) ∧ Hid (wr = w10)) (fun iv _ => N - (intOf iv).toNat)
    case atStart => exact ⟨0, Nat.zero_le _, rfl, Lib.hid rfl⟩
    case round =>
      clear hN1 hN3
      obtain ⟨i, hi, rfl, HW⟩ := hrel
      obtain ⟨W0, rfl⟩ : ∃ W0, W0 = wr := ⟨_, rfl⟩
      by_cases hlt : i < N
      · obtain ⟨gS, rfl, _, hcell⟩ := row_cells RS.out (by
          intro e
          have h1 := congrArg List.length e
          rw [List.length_map, List.length_range] at h1
          simp at h1
          omega)
        have hci : W0.cell? ⟨gS, i, none⟩ = some (.int .i64 (i : Int)) := by
          rw [HW.out]
          exact hcell i _ (by rw [List.getElem?_map, List.getElem?_range hlt]; rfl)
        have hN63 := HN.out
        clear hcell
        go_wp2_with fail
        go_roundw
        case rel => exact ⟨i + 1, by omega, by go_num, HW⟩
        case measure => first | (simp [intOf]; done) | (simp [intOf]; omega)
      · obtain rfl : i = N := by omega
        have hdk : decide ((i : Int) < (i : Int)) = false := by simp
        go_upto_region 23 with fail
        obtain ⟨Bl, hBl⟩ : ∃ Bl, Bl = W0.heap.size := ⟨_, rfl⟩
        obtain ⟨w11, hw11⟩ : ∃ w11, w11 = W0.alloc (.cells #[.int .i64 0] 3) := ⟨_, rfl⟩
        have GB : Hid (Boxed w11 Bl 3 (.int .i64 0)) := Lib.hid (by rw [hw11, hBl]; exact heap_alloc_new _ _)
        have B011 := Lib.hid (alloc_bel hw11)
        have Z11 : Hid (w11.heap.size = Bl + 1) := Lib.hid (by rw [hw11, hBl]; simp)
        rw [← hw11, ← hBl]
        have HBL := Lib.hid hBl
        clear hw11 hBl hdk hlt
        have B9W : Hid (Below w9.heap.size w9 W0) := Lib.hid (by rw [HW.out]; exact B910.out)
        have TW := Lib.hid (T9.out.below B9W.out)
        have GR11 := Lib.hid (row_stays (row_stays GR9.out B9W.out) B011.out)
        go_upto_region 24 with (first
          | (refine wpList_load_row rfl 63 (.tmp 10) rfl w3.heap.size rfl 63 _ (0, 0) _ GR11.out Try.underlying63 rfl (by kernel_rfl) ?_)
          | (go_at_call 30; refine (callsIn_wide.1 (entriesF_mk 3 gv (ra : Int) (hh : Int) w11)).mono ?_; rintro e w12 ⟨rfl, hw12⟩; have HW12 := Lib.hid hw12; clear hw12))
        have B012 : Hid (Below W0.heap.size W0 w12) := Lib.hid (by rw [HW12.out]; exact B011.out.trans ((((Below.refl _ _).alloc (Nat.le_refl _) _).alloc (by simp) _).mono B011.out.size))
        have Z12 : Hid (w12.heap.size = Bl + 3) := Lib.hid (by rw [HW12.out]; simp [Z11.out])
        have X1 : Hid (w12.heap[w11.heap.size]? = some (.cells #[.pointer (some ⟨gv, 0, none⟩)] 61 (0, 0))) := Lib.hid (by rw [HW12.out]; exact row_stays (heap_alloc_new _ _) (alloc_bel rfl))
        have X2 : Hid (w12.heap[w11.heap.size + 1]? = some (.cells #[.int .i64 (ra : Int), .int .i64 (hh : Int)] 63 (0, 0))) := Lib.hid (by
          rw [HW12.out]
          have h1 := heap_alloc_new (w11.alloc (.cells #[.pointer (some ⟨gv, 0, none⟩)] 61)) (.cells #[.int .i64 (ra : Int), .int .i64 (hh : Int)] 63)
          rw [World.size_alloc] at h1
          exact h1)
        have GB12 : Hid (Boxed w12 Bl 3 (.int .i64 0)) := Lib.hid (by rw [HW12.out]; exact row_stays GB.out (((Below.refl _ _).alloc (Nat.le_refl _) _).alloc (by simp) _))
        have B5W : Hid (Below w5.heap.size w5 W0) := Lib.hid (B59.out.trans (B9W.out.mono B59.out.size))
        have GLW : Hid (Boxed W0 gL 22 (.slice A k c)) := Lib.hid (row_stays GL5.out B5W.out)
        have EAW : Hid (EnAt W0 A (ents k s)) := Lib.hid ((EnAt.of_row R5.out).below B5W.out)
        have GRW : Hid (Boxed W0 w.heap.size 4 (.bool false)) := Lib.hid (row_stays G15.out B5W.out)
        have I12 : Hid (EnI Bl W0 (ents k s) [] w12) := Lib.hid ⟨B012.out, GB12.out, List.nil_prefix⟩
        have BWW : Hid (Below w.heap.size w W0) := Lib.hid (BW5.out.trans (B5W.out.mono BW5.out.size))
        have HKL : Hid ((ents k s).length = k) := Lib.hid (ents_len k s)
        obtain ⟨U, g, DB, DN, gs, gn, Ls, cs, cn, drw, dst, dnw, dws, hv, hd, ht⟩ := TW.out
        have hcr : cntR hh (ents k s).length ≤ 1000000 := by have h1 := cntR_le hh (ents k s).length ht.hh5; rw [ents_len] at h1 ⊢; have := HK.out; omega
        obtain ⟨es, hes⟩ : ∃ es, es = ents k s := ⟨_, rfl⟩
        rw [← hes] at ht hcr I12 EAW HKL
        have hN12 : W0.heap.size ≤ w12.heap.size := B012.out.size
        have hBl12 : Bl < w12.heap.size := by rw [Z12.out]; omega
        have hBlW : W0.heap.size ≤ Bl := by have := HBL.out; omega
        have hk150 : k < 150 := HK.out
        clear hes RS T9 TW B9W HN HW B910 R5 B59 B56 B69 B67 B68 R7 EA6 GR9 GL6 GL5 G15 T5 GR5
        refine wp_named ?_
        intro T0 hT0
        refine (wpIn_wide (n := 3)).1 ?_
        refine wpIn_rangeFunc_T rfl (by decide) (gf := 59) (lb := #[.pointer (some ⟨w11.heap.size, 0, none⟩), .pointer (some ⟨w11.heap.size + 1, 0, none⟩)]) (by rw [hT0]; rfl) trivial (enters_of Try.func59 (by kernel_rfl) rfl)
          (entriesF_seq 2 gv W0.heap.size g 1 200 ra hh w11.heap.size (w11.heap.size + 1) U map0 (ownB Bl) W0 rfl hv hd es ht hcr)
          (fun A B l o hl ho hc h => h.keep l o ho (fun cs fr e => by subst e; cases hc)) KpC.trans (fun W l o o' hl ho hc => kpB_put hBl12 hN12 W l o o' hl ho hc) (fun _ => rfl)
          (fun W1 hb hz => ⟨B012.out.trans (hb.mono hN12), row_stays X1.out hb, row_stays X2.out hb⟩)
          (fun xs s A B row hs hg hr => hs) (fun xs s A B row hs hg hr => hs)
          (fun pre W => EnI Bl W0 es pre W) (fun cd pre _ => cd = .ret ∧ ¬ pre <+: es)
          (ownFrom_ck hN12 (fun s A h => h.bel.size) (fun s A B h k => h.ck k))
          (fun c s A B row hs hg hr => hs)
          (fun s A B h k => h.ck k.ck) (fun s A h => h.ok) (fun s A B h k => fun _ h => h) I12.out
          (fun x a' W => ∃ Bx, W.heap[Bx]? = some (.cells #[.int .i64 x.se, .int .i64 x.st, .int .i64 x.en, .int .i64 x.ad, .int .i64 x.le, .int .i64 x.cn, .int .i64 x.co, .int .u32 x.cr] 77 (0, 0)) ∧ a' = { tmps := (((T0.setIfInBounds 113 (enV x)).setIfInBounds 114 (.int .i64 0)).setIfInBounds 22 (.pointer (some ⟨Bx, 0, none⟩))).setIfInBounds 23 (.int .i64 0), defers := [] })
          (fun x a' s A B row hs hg hr => by
            obtain ⟨Bx, h1, h2⟩ := hs
            exact ⟨Bx, (hg.block Bx (Array.getElem?_eq_some_iff.1 h1).1 (fun e => by
              obtain ⟨_, o, ho, hc⟩ := hr Bx e.symm
              rw [h1] at ho
              cases ho
              cases hc)).trans h1, h2⟩) ?assign ?body ?done ?stop
        case assign =>
          rintro l pre x W K hi hK
          have HK2 := Lib.hid hK
          clear hK
          subst hT0
          dsimp only [enV]
          gi_wp2_with (refine inF_store_row rfl 77 (.tmp 22) (.tmp 113) rfl W.heap.size #[.int .i64 x.se, .int .i64 x.st, .int .i64 x.en, .int .i64 x.ad, .int .i64 x.le, .int .i64 x.cn, .int .i64 x.co, .int .u32 x.cr] rfl rfl 77 _ (heap_alloc_new _ _) (by kernel_rfl) rfl (by simp [Value.oneCell']) ?_; rw [World.setRow_alloc_new])
          refine HK2.out _ _ ((KeepsOthers.alloc _ _).from _) (kpB_below (alloc_bel rfl) hi.bel.size) (hi.ck (ck_below (alloc_bel rfl) hi.bel.size)) ⟨W.heap.size, heap_alloc_new _ _, rfl⟩
        case body =>
          rintro l pre x a' W hl ⟨r, hr⟩ hi ⟨Bx, hBx, rfl⟩ hNlt
          subst hT0
          dsimp only [enV]
          simp only [List.setIfInBounds_toArray, List.set_cons_zero, List.set_cons_succ]
          obtain ⟨m, hm⟩ : ∃ m, m = pre.length := ⟨_, rfl⟩
          have hat := hi.at_
          rw [← hm] at hat hNlt
          have hmk : m < k := by rw [← HKL.out]; exact hNlt
          obtain ⟨e, he⟩ : ∃ e, es[m]? = some e := ⟨_, List.getElem?_eq_getElem hNlt⟩
          obtain ⟨b1, o1, hA1, hc0⟩ := (EAW.out.below hi.bel) (by intro e'; rw [e'] at hNlt; simp at hNlt)
          obtain ⟨z0, z1, z2, z3, z4, z5, z6, z7⟩ := hc0 m e he
          have hl1 := World.block_lt_of_cell? _ _ z0
          subst hA1
          have gL1 : Boxed W gL 22 (.slice (some ⟨b1, o1, none⟩) k c) := row_stays GLW.out hi.bel
          have gR1 : Boxed W w.heap.size 4 (.bool false) := row_stays GRW.out hi.bel
          have HI := Lib.hid hi
          have HAT := Lib.hid hat
          have HBX := Lib.hid hBx
          have HM := Lib.hid hm
          have HE := Lib.hid he
          have GL1 := Lib.hid gL1
          have GR1 := Lib.hid gR1
          clear hi hBx hNlt hr hm hat he hc0 gL1 gR1
          have g1 : ∀ y : SubW W.heap.size W, y.at_.cell? ⟨Bl, 0, none⟩ = some (.int .i64 (m : Int)) := fun y => nd_cell (row_stays HAT.out y.ok_) 0 _ rfl
          have g2 : ∀ y : SubW W.heap.size W, y.at_.cell? ⟨gL, 0, none⟩ = some (.slice (some ⟨b1, o1, none⟩) k c) := fun y => nd_cell (row_stays GL1.out y.ok_) 0 _ rfl
          have g3 : ∀ y : SubW W.heap.size W, y.at_.heap[Bx]? = some (.cells #[.int .i64 x.se, .int .i64 x.st, .int .i64 x.en, .int .i64 x.ad, .int .i64 x.le, .int .i64 x.cn, .int .i64 x.co, .int .u32 x.cr] 77 (0, 0)) := fun y => row_stays HBX.out y.ok_
          have P0 : ∀ y : SubW W.heap.size W, y.at_.cell? ⟨b1, o1 + m * 8, none⟩ = some (.int .i64 e.se) := fun y => (y.ok_.cell (p := ⟨b1, o1 + m * 8, none⟩) hl1).trans z0
          have P1 : ∀ y : SubW W.heap.size W, y.at_.cell? ⟨b1, o1 + m * 8 + 1, none⟩ = some (.int .i64 e.st) := fun y => (y.ok_.cell (p := ⟨b1, o1 + m * 8 + 1, none⟩) hl1).trans z1
          have P2 : ∀ y : SubW W.heap.size W, y.at_.cell? ⟨b1, o1 + m * 8 + 2, none⟩ = some (.int .i64 e.en) := fun y => (y.ok_.cell (p := ⟨b1, o1 + m * 8 + 2, none⟩) hl1).trans z2
          have P3 : ∀ y : SubW W.heap.size W, y.at_.cell? ⟨b1, o1 + m * 8 + 3, none⟩ = some (.int .i64 e.ad) := fun y => (y.ok_.cell (p := ⟨b1, o1 + m * 8 + 3, none⟩) hl1).trans z3
          have P4 : ∀ y : SubW W.heap.size W, y.at_.cell? ⟨b1, o1 + m * 8 + 4, none⟩ = some (.int .i64 e.le) := fun y => (y.ok_.cell (p := ⟨b1, o1 + m * 8 + 4, none⟩) hl1).trans z4
          have P5 : ∀ y : SubW W.heap.size W, y.at_.cell? ⟨b1, o1 + m * 8 + 5, none⟩ = some (.int .i64 e.cn) := fun y => (y.ok_.cell (p := ⟨b1, o1 + m * 8 + 5, none⟩) hl1).trans z5
          have P6 : ∀ y : SubW W.heap.size W, y.at_.cell? ⟨b1, o1 + m * 8 + 6, none⟩ = some (.int .i64 e.co) := fun y => (y.ok_.cell (p := ⟨b1, o1 + m * 8 + 6, none⟩) hl1).trans z6
          have P7 : ∀ y : SubW W.heap.size W, y.at_.cell? ⟨b1, o1 + m * 8 + 7, none⟩ = some (.int .u32 e.cr) := fun y => (y.ok_.cell (p := ⟨b1, o1 + m * 8 + 7, none⟩) hl1).trans z7
          clear z0 z1 z2 z3 z4 z5 z6 z7 hl1
          have hge : decide (k ≤ m) = false := decide_eq_false (by omega)
          gi_wp2
          refine region_below_round W.heap.size W (Below.refl _ _) (by kernel_rfl) (by kernel_rfl) (by kernel_rfl) (by rintro ⟨a, w, h⟩; exact h) ?_
          repeat (first
            | (go_big_quiet_want; refine quiet_load_row 77 (.tmp 22) rfl Bx rfl 77 _ (0, 0) _ g3 Try.underlying77 rfl (by kernel_rfl) ?_; simp only [Act.put, List.setIfInBounds_toArray, List.set_cons_zero, List.set_cons_succ]; go_big_quiet_on)
            | (go_big_quiet_want; refine quiet_binOpN .neq 51 (.tmp 125) (.tmp 129) 51 rfl (.agg #[.int .i64 x.se, .int .i64 x.st, .int .i64 x.en, .int .i64 x.ad, .int .i64 x.le, .int .i64 x.cn, .int .i64 x.co, .int .u32 x.cr]) (.agg #[.int .i64 e.se, .int .i64 e.st, .int .i64 e.en, .int .i64 e.ad, .int .i64 e.le, .int .i64 e.cn, .int .i64 e.co, .int .u32 e.cr]) (.bool (!eqE x e)) rfl rfl (fun W => guard_ent _ _ _ _ _ W) (fun W => neq_ent2 x e W) ?_; simp only [Act.put, List.setIfInBounds_toArray, List.set_cons_zero, List.set_cons_succ]; go_big_quiet_on)
            | go_big_quiet_step (first | (go_at_call 31; exact calls_sub (Nat.le_refl _) (back_any x _))))
          refine wpQuiet_nil ?_
          rintro w' ⟨y, rfl⟩
          have HIV : Hid (EnI Bl W0 es pre y.at_) := Lib.hid (HI.out.ck (ck_below y.ok_ HI.out.bel.size))
          have HAV : Hid (Boxed y.at_ Bl 3 (.int .i64 (m : Int))) := Lib.hid (row_stays HAT.out y.ok_)
          have HRV : Hid (Boxed y.at_ w.heap.size 4 (.bool false)) := Lib.hid (row_stays GR1.out y.ok_)
          have HKF : Hid (KeepsFrom w12.heap.size W y.at_) := Lib.hid ((keeps_below y.ok_).from _)
          have HKP : Hid (KpC W0.heap.size (ownB Bl) W y.at_) := Lib.hid (kpB_below y.ok_ HI.out.bel.size)
          obtain ⟨V0, hV0⟩ : ∃ V0, V0 = y.at_ := ⟨_, rfl⟩
          rw [← hV0] at HIV HAV HRV HKF HKP ⊢
          clear hV0 g1 g2 g3 P0 P1 P2 P3 P4 P5 P6 P7 hge
          have kA := HAV.out.cell
          have fA := HAV.out.frozen
          have kR := HRV.out.cell
          have fR := HRV.out.frozen
          obtain ⟨bq, hbq⟩ : ∃ bq, bq = eqE x e := ⟨_, rfl⟩
          rw [← hbq]
          have HBQ := Lib.hid hbq
          clear hbq
          cases bq
          · gi_wp2
            refine ⟨HKF.out.trans ((KeepsOthers.setCell _ _ _).from _), HKP.out.trans (kpB_same HRV.out), rfl, fun hp => ?_⟩
            have h1 := prefix_at hp
            rw [← HM.out, HE.out] at h1
            have h2 := HBQ.out
            rw [Option.some.inj h1, eqE_iff.2 rfl] at h2
            cases h2
          · have hxe : x = e := eqE_iff.1 HBQ.out.symm
            gi_wp2
            refine ⟨HKF.out.trans ((KeepsOthers.setCell _ _ _).from _), HKP.out.trans (kpB_set hBlW _ _), ⟨HIV.out.bel.setCell (p := ⟨Bl, 0, none⟩) hBlW _, ?_, ?_⟩⟩
            · have h1 := HAV.out.set (.int .i64 ((m : Int) + 1))
              rw [List.length_append, ← HM.out]
              exact h1
            · rw [hxe]
              exact prefix_snoc HIV.out.pre (by rw [← HM.out]; exact HE.out)
        case done =>
          rintro D ys W hD rfl hi hK
          subst hT0
          have hL : Boxed W gL 22 (.slice A k c) := row_stays GLW.out hi.bel
          have hR : Boxed W w.heap.size 4 (.bool false) := row_stays GRW.out hi.bel
          have hAt := hi.at_
          rw [HKL.out] at hAt
          have kL := hL.cell
          have kA := hAt.cell
          have kR := hR.cell
          have fR := hR.frozen
          have HI := Lib.hid hi
          have HKD := Lib.hid hK
          have HR := Lib.hid hR
          have HDD := Lib.hid hD
          clear hi hK hR hAt hL hD
          go_wp2_with fail
          obtain ⟨u1, hu1⟩ : ∃ u1, u1 = W.setCell ⟨w.heap.size, 0, none⟩ (.bool true) := ⟨_, rfl⟩
          have p6 : Boxed u1 w.heap.size 4 (.bool true) := by rw [hu1]; exact HR.out.set _
          have hlt6 := HR.out.lt
          have O1 : OuterX (fun q => q = w.heap.size) W u1 := by rw [hu1]; exact (OuterX.refl _ W).grown (grownBy_setCell' _ _ _) (fun q hq => .inl (by cases hq; rfl))
          have hkd : u1.heap[D]? = some (.deferred (some [])) := O1.heap HKD.out (by have := HDD.out; have := BWW.out.size; omega)
          rw [← hu1]
          clear hu1 kL kA kR fR
          refine ⟨by simp, .inl ⟨_, _, rfl, run_takeDeferred hkd, ?_⟩⟩
          have hpg := grownBy_putObj' u1 D (.deferred none)
          have r6 := p6.kept hpg (fun e => by
            cases e
            rw [show u1.heap[_]? = _ from p6] at hkd
            cases hkd)
          refine ⟨.bool true, results_cellB (p := 6) rfl _ _ ⟨w.heap.size, 0, none⟩ _ rfl (run_loadVar_one _ _ _ _ _ Try.underlying4 rfl r6.cell), rfl, ?_⟩
          have hBI := BWW.out.trans (HI.out.bel.mono BWW.out.size)
          refine ⟨O1.os.trans hBI.os, O1.tape.trans hBI.tape, O1.output.trans hBI.output, Nat.le_trans hBI.size (Nat.le_trans O1.size hpg.size), fun q hq => ?_⟩
          have h1 := hBI.block q hq
          have h2 := O1.block q (Nat.lt_of_lt_of_le hq hBI.size) (by omega)
          have h3 := hpg.block q (Nat.lt_of_lt_of_le (Nat.lt_of_lt_of_le hq hBI.size) O1.size) (fun e => by cases e; have := HDD.out; have := BWW.out.size; omega)
          exact h3.trans (h2.trans h1)
        case stop =>
          rintro D cd pre W hD ⟨r, he, _⟩ ⟨_, hn⟩ hK
          exact absurd ⟨r, he.symm⟩ hn
  · have hd : decide (mo > 200) = false := by simpa using h2
    obtain ⟨M, hM⟩ : ∃ M, M = mo := ⟨_, rfl⟩
    have HM : Hid (M ≤ 200) := Lib.hid (by rw [hM]; omega)
    clear h2
    go_upto_region 10 with fail
    rw [← hM]
    clear hM hd
    obtain ⟨P, hP⟩ : ∃ P, P = min M.toNat k := ⟨_, rfl⟩
    have HTX : Hid (Calls Try.prog 25 #[.pointer (some ⟨gv, 0, none⟩), .agg #[.int .i64 (ra : Int), .int .i64 (hh : Int)], .int .i64 M] w5 fun e w' => ∃ A' c', e = .returned (.tuple #[.slice A' P c', .int .i64 (cntR hh P : Int), .int .i64 0]) ∧ w'.ownsRow w5.heap.size 77 8 (.slice A' P c') P ((ents P s).flatMap enC) ∧ Below w5.heap.size w5 w') := Lib.hid (by
      refine (take_int gv ra hh (ents k s) (by rw [ents_len]; have := HK.out; omega) M (by have := HM.out; omega) w5 T5.out).mono ?_
      rintro e w' ⟨⟨A', c', h1, h2⟩, h3⟩
      rw [ents_len, ← hP] at h1
      rw [ents_len, ents_take, ← hP] at h2
      exact ⟨A', c', h1, h2, h3⟩)
    have HPK : Hid (P ≤ k) := Lib.hid (by rw [hP]; exact Nat.min_le_right _ _)
    have HP := Lib.hid hP
    clear hP
    go_upto_region 11 with (first
      | (refine wpList_load_row rfl 63 (.tmp 10) rfl w3.heap.size rfl 63 _ (0, 0) _ GR5.out Try.underlying63 rfl (by kernel_rfl) ?_)
      | (go_at_call 25; refine HTX.out.mono ?_; rintro e w6 ⟨A6, c6, rfl, hr, hb⟩; have R6 := Lib.hid hr; have B56 := Lib.hid hb; clear hr hb HTX))
    have GL6 := Lib.hid (row_stays GL5.out B56.out)
    have k11 := nd_cell GL6.out 0 (.slice A k c) rfl
    obtain ⟨hcA, hcAm⟩ := row_cap R5.out
    have hcAm' : c ≤ 9223372036854775807 := hcAm
    have hmin : min (max M 0) (k : Int) = (P : Int) := by rw [HP.out]; omega
    have hmin2 : min (k : Int) (max M 0) = (P : Int) := by rw [HP.out]; omega
    have hPc : (P : Int) ≤ (c : Int) := by have := HPK.out; omega
    go_upto_region 12 with fail
    clear hmin hmin2 hPc k11
    have E6 : Hid (EnAt w6 A6 (ents P s)) := Lib.hid (EnAt.of_row R6.out)
    have EA6 : Hid (EnAt w6 A (ents k s)) := Lib.hid (EnAt.of_row (row_below R5.out B56.out))
    have HPM : Hid (P ≤ 1000000) := Lib.hid (by have := HPK.out; have := HK.out; omega)
    have HND : Hid (∀ W, Calls Try.prog 28 #[.int .i64 (k : Int), .int .i64 (P : Int)] W fun e w' => e = .returned (.int .i64 (cntR hh P : Int)) ∧ Below W.heap.size W w') := Lib.hid (fun W => nodes_tree T5.out (by have := HK.out; omega) HPK.out W)
    obtain ⟨cp, hcp⟩ : ∃ cp, cp = cntR hh P := ⟨_, rfl⟩
    rw [← hcp] at HND ⊢
    clear hcp
    go_upto_region 14 with (first
      | (go_at_call 27; refine (back_list (ents P s) A6 P c6 w6 (ents_len P s) HPM.out E6.out).mono ?_; rintro e w7 ⟨A7, c7, rfl, hr, hb⟩; have R7 := Lib.hid hr; have B67 := Lib.hid hb; clear hr hb)
      | (go_at_call 26; refine (same_list (ents P s) A7 A P c7 c w7 (ents_len P s) HPM.out (EnAt.of_row R7.out) (by
          have h1 := (EA6.out.below B67.out).take P
          rw [ents_take, Nat.min_eq_left HPK.out] at h1
          exact h1)).mono ?_; rintro e w8 ⟨rfl, hb⟩; have B68 := Lib.hid (B67.out.trans (hb.mono B67.out.size)); clear hb; have k12 := nd_cell (row_stays GL6.out B68.out) 0 (.slice A k c) rfl)
      | (go_at_call 28; refine (HND.out w8).mono ?_; rintro e w9 ⟨rfl, hb⟩; have B69 := Lib.hid (B68.out.trans (hb.mono B68.out.size)); clear hb))
    have B59 : Hid (Below w5.heap.size w5 w9) := Lib.hid (B56.out.trans (B69.out.mono B56.out.size))
    have GR9 := Lib.hid (row_stays GR5.out B59.out)
    have T9 := Lib.hid (T5.out.below B59.out)
    obtain ⟨N, hN⟩ : ∃ N, N = (k + 29) / 30 := ⟨_, rfl⟩
    have HSR := Lib.hid (series_tree gv ra hh k s (by have := HK.out; omega) w9 T9.out)
    rw [← hN] at HSR
    have hN3 : wrap64 (((k : Int) + 29).tdiv 30) = (N : Int) := by
      rw [Int.tdiv_eq_ediv_of_nonneg (by omega)]
      have h1 : ((k : Int) + 29) / 30 = (N : Int) := by rw [hN]; omega
      rw [h1]
      exact wrap_small (by omega) (by have := HK.out; rw [hN]; omega)
    have hN1 : wrap64 ((k : Int) + 29) = (k : Int) + 29 := wrap_small (by omega) (by have := HK.out; omega)
    have HN : Hid (N ≤ 10) := Lib.hid (by have := HK.out; rw [hN]; omega)
    clear hN E6 R6 HND k12
    go_upto_region 15 with (first
      | (refine wpList_load_row rfl 63 (.tmp 10) rfl w3.heap.size rfl 63 _ (0, 0) _ GR9.out Try.underlying63 rfl (by kernel_rfl) ?_)
      | (go_at_call 29; refine HSR.out.mono ?_; rintro e w10 ⟨⟨SA, sc, rfl, hr⟩, hb⟩; have RS := Lib.hid hr; have B910 := Lib.hid hb; clear hr hb HSR))
    go_upto_region 18 with fail
    go_loopw [20] (fun iv wr => ∃ i : Nat, i ≤ N ∧ iv = .int .i64 (i : Int) ∧ Hid (wr = w10)) (fun iv _ => N - (intOf iv).toNat)
    case atStart => exact ⟨0, Nat.zero_le _, rfl, Lib.hid rfl⟩
    case round =>
      clear hN1 hN3
      obtain ⟨i, hi, rfl, HW⟩ := hrel
      obtain ⟨W0, rfl⟩ : ∃ W0, W0 = wr := ⟨_, rfl⟩
      by_cases hlt : i < N
      · obtain ⟨gS, rfl, _, hcell⟩ := row_cells RS.out (by
          intro e
          have h1 := congrArg List.length e
          rw [List.length_map, List.length_range] at h1
          simp at h1
          omega)
        have hci : W0.cell? ⟨gS, i, none⟩ = some (.int .i64 (i : Int)) := by
          rw [HW.out]
          exact hcell i _ (by rw [List.getElem?_map, List.getElem?_range hlt]; rfl)
        have hN63 := HN.out
        clear hcell
        go_wp2_with fail
        go_roundw
        case rel => exact ⟨i + 1, by omega, by go_num, HW⟩
        case measure => first | (simp [intOf]; done) | (simp [intOf]; omega)
      · obtain rfl : i = N := by omega
        have hdk : decide ((i : Int) < (i : Int)) = false := by simp
        go_upto_region 23 with fail
        obtain ⟨Bl, hBl⟩ : ∃ Bl, Bl = W0.heap.size := ⟨_, rfl⟩
        obtain ⟨w11, hw11⟩ : ∃ w11, w11 = W0.alloc (.cells #[.int .i64 0] 3) := ⟨_, rfl⟩
        have GB : Hid (Boxed w11 Bl 3 (.int .i64 0)) := Lib.hid (by rw [hw11, hBl]; exact heap_alloc_new _ _)
        have B011 := Lib.hid (alloc_bel hw11)
        have Z11 : Hid (w11.heap.size = Bl + 1) := Lib.hid (by rw [hw11, hBl]; simp)
        rw [← hw11, ← hBl]
        have HBL := Lib.hid hBl
        clear hw11 hBl hdk hlt
        have B9W : Hid (Below w9.heap.size w9 W0) := Lib.hid (by rw [HW.out]; exact B910.out)
        have TW := Lib.hid (T9.out.below B9W.out)
        have GR11 := Lib.hid (row_stays (row_stays GR9.out B9W.out) B011.out)
        go_upto_region 24 with (first
          | (refine wpList_load_row rfl 63 (.tmp 10) rfl w3.heap.size rfl 63 _ (0, 0) _ GR11.out Try.underlying63 rfl (by kernel_rfl) ?_)
          | (go_at_call 30; refine (callsIn_wide.1 (entriesF_mk 3 gv (ra : Int) (hh : Int) w11)).mono ?_; rintro e w12 ⟨rfl, hw12⟩; have HW12 := Lib.hid hw12; clear hw12))
        have B012 : Hid (Below W0.heap.size W0 w12) := Lib.hid (by rw [HW12.out]; exact B011.out.trans ((((Below.refl _ _).alloc (Nat.le_refl _) _).alloc (by simp) _).mono B011.out.size))
        have Z12 : Hid (w12.heap.size = Bl + 3) := Lib.hid (by rw [HW12.out]; simp [Z11.out])
        have X1 : Hid (w12.heap[w11.heap.size]? = some (.cells #[.pointer (some ⟨gv, 0, none⟩)] 61 (0, 0))) := Lib.hid (by rw [HW12.out]; exact row_stays (heap_alloc_new _ _) (alloc_bel rfl))
        have X2 : Hid (w12.heap[w11.heap.size + 1]? = some (.cells #[.int .i64 (ra : Int), .int .i64 (hh : Int)] 63 (0, 0))) := Lib.hid (by
          rw [HW12.out]
          have h1 := heap_alloc_new (w11.alloc (.cells #[.pointer (some ⟨gv, 0, none⟩)] 61)) (.cells #[.int .i64 (ra : Int), .int .i64 (hh : Int)] 63)
          rw [World.size_alloc] at h1
          exact h1)
        have GB12 : Hid (Boxed w12 Bl 3 (.int .i64 0)) := Lib.hid (by rw [HW12.out]; exact row_stays GB.out (((Below.refl _ _).alloc (Nat.le_refl _) _).alloc (by simp) _))
        have B5W : Hid (Below w5.heap.size w5 W0) := Lib.hid (B59.out.trans (B9W.out.mono B59.out.size))
        have GLW : Hid (Boxed W0 gL 22 (.slice A k c)) := Lib.hid (row_stays GL5.out B5W.out)
        have EAW : Hid (EnAt W0 A (ents k s)) := Lib.hid ((EnAt.of_row R5.out).below B5W.out)
        have GRW : Hid (Boxed W0 w.heap.size 4 (.bool false)) := Lib.hid (row_stays G15.out B5W.out)
        have I12 : Hid (EnI Bl W0 (ents k s) [] w12) := Lib.hid ⟨B012.out, GB12.out, List.nil_prefix⟩
        have BWW : Hid (Below w.heap.size w W0) := Lib.hid (BW5.out.trans (B5W.out.mono BW5.out.size))
        have HKL : Hid ((ents k s).length = k) := Lib.hid (ents_len k s)
        obtain ⟨U, g, DB, DN, gs, gn, Ls, cs, cn, drw, dst, dnw, dws, hv, hd, ht⟩ := TW.out
        have hcr : cntR hh (ents k s).length ≤ 1000000 := by have h1 := cntR_le hh (ents k s).length ht.hh5; rw [ents_len] at h1 ⊢; have := HK.out; omega
        obtain ⟨es, hes⟩ : ∃ es, es = ents k s := ⟨_, rfl⟩
        rw [← hes] at ht hcr I12 EAW HKL
        have hN12 : W0.heap.size ≤ w12.heap.size := B012.out.size
        have hBl12 : Bl < w12.heap.size := by rw [Z12.out]; omega
        have hBlW : W0.heap.size ≤ Bl := by have := HBL.out; omega
        have hk150 : k < 150 := HK.out
        clear hes RS T9 TW B9W HN HW B910 R5 B59 B56 B69 B67 B68 R7 EA6 GR9 GL6 GL5 G15 T5 GR5
        refine wp_named ?_
        intro T0 hT0
        refine (wpIn_wide (n := 3)).1 ?_
        refine wpIn_rangeFunc_T rfl (by decide) (gf := 59) (lb := #[.pointer (some ⟨w11.heap.size, 0, none⟩), .pointer (some ⟨w11.heap.size + 1, 0, none⟩)]) (by rw [hT0]; rfl) trivial (enters_of Try.func59 (by kernel_rfl) rfl)
          (entriesF_seq 2 gv W0.heap.size g 1 200 ra hh w11.heap.size (w11.heap.size + 1) U map0 (ownB Bl) W0 rfl hv hd es ht hcr)
          (fun A B l o hl ho hc h => h.keep l o ho (fun cs fr e => by subst e; cases hc)) KpC.trans (fun W l o o' hl ho hc => kpB_put hBl12 hN12 W l o o' hl ho hc) (fun _ => rfl)
          (fun W1 hb hz => ⟨B012.out.trans (hb.mono hN12), row_stays X1.out hb, row_stays X2.out hb⟩)
          (fun xs s A B row hs hg hr => hs) (fun xs s A B row hs hg hr => hs)
          (fun pre W => EnI Bl W0 es pre W) (fun cd pre _ => cd = .ret ∧ ¬ pre <+: es)
          (ownFrom_ck hN12 (fun s A h => h.bel.size) (fun s A B h k => h.ck k))
          (fun c s A B row hs hg hr => hs)
          (fun s A B h k => h.ck k.ck) (fun s A h => h.ok) (fun s A B h k => fun _ h => h) I12.out
          (fun x a' W => ∃ Bx, W.heap[Bx]? = some (.cells #[.int .i64 x.se, .int .i64 x.st, .int .i64 x.en, .int .i64 x.ad, .int .i64 x.le, .int .i64 x.cn, .int .i64 x.co, .int .u32 x.cr] 77 (0, 0)) ∧ a' = { tmps := (((T0.setIfInBounds 113 (enV x)).setIfInBounds 114 (.int .i64 0)).setIfInBounds 22 (.pointer (some ⟨Bx, 0, none⟩))).setIfInBounds 23 (.int .i64 0), defers := [] })
          (fun x a' s A B row hs hg hr => by
            obtain ⟨Bx, h1, h2⟩ := hs
            exact ⟨Bx, (hg.block Bx (Array.getElem?_eq_some_iff.1 h1).1 (fun e => by
              obtain ⟨_, o, ho, hc⟩ := hr Bx e.symm
              rw [h1] at ho
              cases ho
              cases hc)).trans h1, h2⟩) ?assign ?body ?done ?stop
        case assign =>
          rintro l pre x W K hi hK
          have HK2 := Lib.hid hK
          clear hK
          subst hT0
          dsimp only [enV]
          gi_wp2_with (refine inF_store_row rfl 77 (.tmp 22) (.tmp 113) rfl W.heap.size #[.int .i64 x.se, .int .i64 x.st, .int .i64 x.en, .int .i64 x.ad, .int .i64 x.le, .int .i64 x.cn, .int .i64 x.co, .int .u32 x.cr] rfl rfl 77 _ (heap_alloc_new _ _) (by kernel_rfl) rfl (by simp [Value.oneCell']) ?_; rw [World.setRow_alloc_new])
          refine HK2.out _ _ ((KeepsOthers.alloc _ _).from _) (kpB_below (alloc_bel rfl) hi.bel.size) (hi.ck (ck_below (alloc_bel rfl) hi.bel.size)) ⟨W.heap.size, heap_alloc_new _ _, rfl⟩
        case body =>
          rintro l pre x a' W hl ⟨r, hr⟩ hi ⟨Bx, hBx, rfl⟩ hNlt
          subst hT0
          dsimp only [enV]
          simp only [List.setIfInBounds_toArray, List.set_cons_zero, List.set_cons_succ]
          obtain ⟨m, hm⟩ : ∃ m, m = pre.length := ⟨_, rfl⟩
          have hat := hi.at_
          rw [← hm] at hat hNlt
          have hmk : m < k := by rw [← HKL.out]; exact hNlt
          obtain ⟨e, he⟩ : ∃ e, es[m]? = some e := ⟨_, List.getElem?_eq_getElem hNlt⟩
          obtain ⟨b1, o1, hA1, hc0⟩ := (EAW.out.below hi.bel) (by intro e'; rw [e'] at hNlt; simp at hNlt)
          obtain ⟨z0, z1, z2, z3, z4, z5, z6, z7⟩ := hc0 m e he
          have hl1 := World.block_lt_of_cell? _ _ z0
          subst hA1
          have gL1 : Boxed W gL 22 (.slice (some ⟨b1, o1, none⟩) k c) := row_stays GLW.out hi.bel
          have gR1 : Boxed W w.heap.size 4 (.bool false) := row_stays GRW.out hi.bel
          have HI := Lib.hid hi
          have HAT := Lib.hid hat
          have HBX := Lib.hid hBx
          have HM := Lib.hid hm
          have HE := Lib.hid he
          have GL1 := Lib.hid gL1
          have GR1 := Lib.hid gR1
          clear hi hBx hNlt hr hm hat he hc0 gL1 gR1
          have g1 : ∀ y : SubW W.heap.size W, y.at_.cell? ⟨Bl, 0, none⟩ = some (.int .i64 (m : Int)) := fun y => nd_cell (row_stays HAT.out y.ok_) 0 _ rfl
          have g2 : ∀ y : SubW W.heap.size W, y.at_.cell? ⟨gL, 0, none⟩ = some (.slice (some ⟨b1, o1, none⟩) k c) := fun y => nd_cell (row_stays GL1.out y.ok_) 0 _ rfl
          have g3 : ∀ y : SubW W.heap.size W, y.at_.heap[Bx]? = some (.cells #[.int .i64 x.se, .int .i64 x.st, .int .i64 x.en, .int .i64 x.ad, .int .i64 x.le, .int .i64 x.cn, .int .i64 x.co, .int .u32 x.cr] 77 (0, 0)) := fun y => row_stays HBX.out y.ok_
          have P0 : ∀ y : SubW W.heap.size W, y.at_.cell? ⟨b1, o1 + m * 8, none⟩ = some (.int .i64 e.se) := fun y => (y.ok_.cell (p := ⟨b1, o1 + m * 8, none⟩) hl1).trans z0
          have P1 : ∀ y : SubW W.heap.size W, y.at_.cell? ⟨b1, o1 + m * 8 + 1, none⟩ = some (.int .i64 e.st) := fun y => (y.ok_.cell (p := ⟨b1, o1 + m * 8 + 1, none⟩) hl1).trans z1
          have P2 : ∀ y : SubW W.heap.size W, y.at_.cell? ⟨b1, o1 + m * 8 + 2, none⟩ = some (.int .i64 e.en) := fun y => (y.ok_.cell (p := ⟨b1, o1 + m * 8 + 2, none⟩) hl1).trans z2
          have P3 : ∀ y : SubW W.heap.size W, y.at_.cell? ⟨b1, o1 + m * 8 + 3, none⟩ = some (.int .i64 e.ad) := fun y => (y.ok_.cell (p := ⟨b1, o1 + m * 8 + 3, none⟩) hl1).trans z3
          have P4 : ∀ y : SubW W.heap.size W, y.at_.cell? ⟨b1, o1 + m * 8 + 4, none⟩ = some (.int .i64 e.le) := fun y => (y.ok_.cell (p := ⟨b1, o1 + m * 8 + 4, none⟩) hl1).trans z4
          have P5 : ∀ y : SubW W.heap.size W, y.at_.cell? ⟨b1, o1 + m * 8 + 5, none⟩ = some (.int .i64 e.cn) := fun y => (y.ok_.cell (p := ⟨b1, o1 + m * 8 + 5, none⟩) hl1).trans z5
          have P6 : ∀ y : SubW W.heap.size W, y.at_.cell? ⟨b1, o1 + m * 8 + 6, none⟩ = some (.int .i64 e.co) := fun y => (y.ok_.cell (p := ⟨b1, o1 + m * 8 + 6, none⟩) hl1).trans z6
          have P7 : ∀ y : SubW W.heap.size W, y.at_.cell? ⟨b1, o1 + m * 8 + 7, none⟩ = some (.int .u32 e.cr) := fun y => (y.ok_.cell (p := ⟨b1, o1 + m * 8 + 7, none⟩) hl1).trans z7
          clear z0 z1 z2 z3 z4 z5 z6 z7 hl1
          have hge : decide (k ≤ m) = false := decide_eq_false (by omega)
          gi_wp2
          refine region_below_round W.heap.size W (Below.refl _ _) (by kernel_rfl) (by kernel_rfl) (by kernel_rfl) (by rintro ⟨a, w, h⟩; exact h) ?_
          repeat (first
            | (go_big_quiet_want; refine quiet_load_row 77 (.tmp 22) rfl Bx rfl 77 _ (0, 0) _ g3 Try.underlying77 rfl (by kernel_rfl) ?_; simp only [Act.put, List.setIfInBounds_toArray, List.set_cons_zero, List.set_cons_succ]; go_big_quiet_on)
            | (go_big_quiet_want; refine quiet_binOpN .neq 51 (.tmp 125) (.tmp 129) 51 rfl (.agg #[.int .i64 x.se, .int .i64 x.st, .int .i64 x.en, .int .i64 x.ad, .int .i64 x.le, .int .i64 x.cn, .int .i64 x.co, .int .u32 x.cr]) (.agg #[.int .i64 e.se, .int .i64 e.st, .int .i64 e.en, .int .i64 e.ad, .int .i64 e.le, .int .i64 e.cn, .int .i64 e.co, .int .u32 e.cr]) (.bool (!eqE x e)) rfl rfl (fun W => guard_ent _ _ _ _ _ W) (fun W => neq_ent2 x e W) ?_; simp only [Act.put, List.setIfInBounds_toArray, List.set_cons_zero, List.set_cons_succ]; go_big_quiet_on)
            | go_big_quiet_step (first | (go_at_call 31; exact calls_sub (Nat.le_refl _) (back_any x _))))
          refine wpQuiet_nil ?_
          rintro w' ⟨y, rfl⟩
          have HIV : Hid (EnI Bl W0 es pre y.at_) := Lib.hid (HI.out.ck (ck_below y.ok_ HI.out.bel.size))
          have HAV : Hid (Boxed y.at_ Bl 3 (.int .i64 (m : Int))) := Lib.hid (row_stays HAT.out y.ok_)
          have HRV : Hid (Boxed y.at_ w.heap.size 4 (.bool false)) := Lib.hid (row_stays GR1.out y.ok_)
          have HKF : Hid (KeepsFrom w12.heap.size W y.at_) := Lib.hid ((keeps_below y.ok_).from _)
          have HKP : Hid (KpC W0.heap.size (ownB Bl) W y.at_) := Lib.hid (kpB_below y.ok_ HI.out.bel.size)
          obtain ⟨V0, hV0⟩ : ∃ V0, V0 = y.at_ := ⟨_, rfl⟩
          rw [← hV0] at HIV HAV HRV HKF HKP ⊢
          clear hV0 g1 g2 g3 P0 P1 P2 P3 P4 P5 P6 P7 hge
          have kA := HAV.out.cell
          have fA := HAV.out.frozen
          have kR := HRV.out.cell
          have fR := HRV.out.frozen
          obtain ⟨bq, hbq⟩ : ∃ bq, bq = eqE x e := ⟨_, rfl⟩
          rw [← hbq]
          have HBQ := Lib.hid hbq
          clear hbq
          cases bq
          · gi_wp2
            refine ⟨HKF.out.trans ((KeepsOthers.setCell _ _ _).from _), HKP.out.trans (kpB_same HRV.out), rfl, fun hp => ?_⟩
            have h1 := prefix_at hp
            rw [← HM.out, HE.out] at h1
            have h2 := HBQ.out
            rw [Option.some.inj h1, eqE_iff.2 rfl] at h2
            cases h2
          · have hxe : x = e := eqE_iff.1 HBQ.out.symm
            gi_wp2
            refine ⟨HKF.out.trans ((KeepsOthers.setCell _ _ _).from _), HKP.out.trans (kpB_set hBlW _ _), ⟨HIV.out.bel.setCell (p := ⟨Bl, 0, none⟩) hBlW _, ?_, ?_⟩⟩
            · have h1 := HAV.out.set (.int .i64 ((m : Int) + 1))
              rw [List.length_append, ← HM.out]
              exact h1
            · rw [hxe]
              exact prefix_snoc HIV.out.pre (by rw [← HM.out]; exact HE.out)
        case done =>
          rintro D ys W hD rfl hi hK
          subst hT0
          have hL : Boxed W gL 22 (.slice A k c) := row_stays GLW.out hi.bel
          have hR : Boxed W w.heap.size 4 (.bool false) := row_stays GRW.out hi.bel
          have hAt := hi.at_
          rw [HKL.out] at hAt
          have kL := hL.cell
          have kA := hAt.cell
          have kR := hR.cell
          have fR := hR.frozen
          have HI := Lib.hid hi
          have HKD := Lib.hid hK
          have HR := Lib.hid hR
          have HDD := Lib.hid hD
          clear hi hK hR hAt hL hD
          go_wp2_with fail
          obtain ⟨u1, hu1⟩ : ∃ u1, u1 = W.setCell ⟨w.heap.size, 0, none⟩ (.bool true) := ⟨_, rfl⟩
          have p6 : Boxed u1 w.heap.size 4 (.bool true) := by rw [hu1]; exact HR.out.set _
          have hlt6 := HR.out.lt
          have O1 : OuterX (fun q => q = w.heap.size) W u1 := by rw [hu1]; exact (OuterX.refl _ W).grown (grownBy_setCell' _ _ _) (fun q hq => .inl (by cases hq; rfl))
          have hkd : u1.heap[D]? = some (.deferred (some [])) := O1.heap HKD.out (by have := HDD.out; have := BWW.out.size; omega)
          rw [← hu1]
          clear hu1 kL kA kR fR
          refine ⟨by simp, .inl ⟨_, _, rfl, run_takeDeferred hkd, ?_⟩⟩
          have hpg := grownBy_putObj' u1 D (.deferred none)
          have r6 := p6.kept hpg (fun e => by
            cases e
            rw [show u1.heap[_]? = _ from p6] at hkd
            cases hkd)
          refine ⟨.bool true, results_cellB (p := 6) rfl _ _ ⟨w.heap.size, 0, none⟩ _ rfl (run_loadVar_one _ _ _ _ _ Try.underlying4 rfl r6.cell), rfl, ?_⟩
          have hBI := BWW.out.trans (HI.out.bel.mono BWW.out.size)
          refine ⟨O1.os.trans hBI.os, O1.tape.trans hBI.tape, O1.output.trans hBI.output, Nat.le_trans hBI.size (Nat.le_trans O1.size hpg.size), fun q hq => ?_⟩
          have h1 := hBI.block q hq
          have h2 := O1.block q (Nat.lt_of_lt_of_le hq hBI.size) (by omega)
          have h3 := hpg.block q (Nat.lt_of_lt_of_le (Nat.lt_of_lt_of_le hq hBI.size) O1.size) (fun e => by cases e; have := HDD.out; have := BWW.out.size; omega)
          exact h3.trans (h2.trans h1)
        case stop =>
          rintro D cd pre W hD ⟨r, he, _⟩ ⟨_, hn⟩ hK
          exact absurd ⟨r, he.symm⟩ hn
end Go.Proofs.Ytgkddhncfaeidaa
