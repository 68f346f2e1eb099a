/- Series: the series that have entries. -/
import Derived.Test.YtgkddhncfaeidaaPart37
import Derived.Test.YtgkddhncfaeidaaPart27
set_option linter.unusedSimpArgs false
set_option linter.unusedVariables false
namespace Go.Proofs.Ytgkddhncfaeidaa
open Go.RowKit Go.Shelf CrcM PageM
set_option linter.unusedVariables false
attribute [local go_sem] Oper.semAt_some

/-- The series of entries, each once. -/
def serStep (l : List Int) (x : EntD) : List Int := if l.getLast? = some x.se then l else l ++ [x.se]
def serOf (es : List EntD) : List Int := es.foldl serStep []
theorem serOf_snoc (pre : List EntD) (x : EntD) : serOf (pre ++ [x]) = serStep (serOf pre) x := by simp [serOf, List.foldl_append]
theorem serStep_len (l : List Int) (x : EntD) : (serStep l x).length ≤ l.length + 1 := by
  unfold serStep
  by_cases h : l.getLast? = some x.se
  · rw [if_pos h]; omega
  · rw [if_neg h]; simp
theorem serOf_len (es : List EntD) : (serOf es).length ≤ es.length := by
  suffices h : ∀ (es : List EntD) (l : List Int), (es.foldl serStep l).length ≤ l.length + es.length by simpa [serOf] using h es []
  intro es
  induction es with
  | nil => intro l; simp
  | cons x t ih =>
    intro l
    rw [List.foldl_cons, List.length_cons]
    have h1 := ih (serStep l x)
    have h2 := serStep_len l x
    omega
theorem serOf_ents (s : Nat) : ∀ k : Nat, serOf (ents k s) = (List.range ((k + 29) / 30)).map (fun i => ((i : Nat) : Int))
  | 0 => rfl
  | k + 1 => by
    rw [ents_succ, serOf_snoc, serOf_ents s k]
    have hse : (entI s k).se = ((k / 30 : Nat) : Int) := rfl
    unfold serStep
    by_cases h : k % 30 = 0
    · have e1 : (k + 1 + 29) / 30 = k / 30 + 1 := by omega
      have e2 : (k + 29) / 30 = k / 30 := by omega
      rw [e1, e2, if_neg, List.range_succ, List.map_append]
      · rfl
      · rw [hse]
        cases hk : k / 30 with
        | zero => simp
        | succ q =>
          rw [List.range_succ, List.map_append]
          simp
          omega
    · have e1 : (k + 1 + 29) / 30 = k / 30 + 1 := by omega
      have e2 : (k + 29) / 30 = k / 30 + 1 := by omega
      rw [e1, e2, if_pos]
      rw [hse, List.range_succ, List.map_append]
      simp

/-- Between two rounds of Series. -/
structure SeI (Bl : Nat) (w : World) (pre : List EntD) (W : World) : Prop where
  bel : Below w.heap.size w W
  lst : ∃ v, Boxed W Bl 24 v ∧ W.ownsRow w.heap.size 3 1 v (serOf pre).length ((serOf pre).map kdC)
  c4 : W.heap[w.heap.size + 1]? = some (.cells #[.slice none 0 0] 24 (0, 0))
  c5 : W.heap[w.heap.size + 1 + 1]? = some (.cells #[.int .i64 0] 28 (0, 0))
theorem SeI.ck {Bl : Nat} {w A B : World} {pre : List EntD} (h : SeI Bl w pre A) (k : CK w.heap.size A B) : SeI Bl w pre B where
  bel := h.bel.trans k.bel
  lst := by
    obtain ⟨v, h1, h2⟩ := h.lst
    exact ⟨v, (k.keep _ _ _ _ h1 (by decide)).trans h1, row_keep h2 (fun i cur _ hc => k.keep _ _ _ _ hc (by decide))⟩
  c4 := (k.keep _ _ _ _ h.c4 (by decide)).trans h.c4
  c5 := (k.keep _ _ _ _ h.c5 (by decide)).trans h.c5
theorem SeI.ok {Bl : Nat} {w A : World} {pre : List EntD} (h : SeI Bl w pre A) : OkC w.heap.size (ownTk Bl) A := ⟨h.bel.size, fun k hk => by
  obtain ⟨v, h1, h2⟩ := h.lst
  rcases hk with rfl | ⟨u, hu, ho⟩
  · exact h1.lt
  · rw [h1.cell] at hu
    cases hu
    exact (World.ownsRow.lt h2 k ho).2⟩
theorem SeI.cc {Bl : Nat} {w A B : World} {pre : List EntD} (h : SeI Bl w pre A) (k : TL w.heap.size A B) : CcC (ownTk Bl) A B := fun i hi => by
  obtain ⟨v, h1, _⟩ := h.lst
  exact ownTk_same (k.ck.keep _ _ _ _ h1 (by decide)) hi
theorem SeI.app {Bl : Nat} {w W w1 : World} {pre : List EntD} {x : EntD} {v v' : Value} {tmp : Obj} (h : SeI Bl w pre W) (hB : w.heap.size + 3 ≤ Bl) (hv : Boxed W Bl 24 v) (hrow : W.ownsRow w.heap.size 3 1 v (serOf pre).length ((serOf pre).map kdC)) (hne : (serOf pre).getLast? ≠ some x.se)
    (hown' : w1.ownsRow w.heap.size 3 1 v' ((serOf pre).length + 1) ((serOf pre).map kdC ++ [.int .i64 x.se])) (hgrow : (W.alloc tmp).grownBy w1 v.ownBlock) (hblk : v'.ownBlock = v.ownBlock ∨ v'.ownBlock = some (W.alloc tmp).heap.size) : SeI Bl w (pre ++ [x]) (w1.setCell ⟨Bl, 0, none⟩ v') := by
  have hk := kpTk_app hv (by decide) hrow h.bel.size (by omega) hown' hgrow hblk
  obtain ⟨_, hv2, hr2, _, hb2⟩ := hv.appended (by decide) hrow h.bel.size (by omega) hown' hgrow
  have hno : ∀ (k : Nat) (t : TypeId) (u : Value), Boxed W k t u → t ≠ 3 → k ≠ Bl → ¬ ownTk Bl W k := fun k t u hb ht hne ho => by
    rcases ho with ho | ⟨u', hu, ho⟩
    · exact hne ho
    · rw [hv.cell] at hu
      cases hu
      exact hb.not_row ht hrow ho.symm
  have hs : serOf (pre ++ [x]) = serOf pre ++ [x.se] := by rw [serOf_snoc]; unfold serStep; rw [if_neg hne]
  exact ⟨h.bel.trans hb2, ⟨v', hv2, by rw [hs, List.length_append, List.map_append]; exact hr2⟩,
    (hk.keep _ _ _ _ h.c4 (hno _ _ _ h.c4 (by decide) (by omega))).trans h.c4, (hk.keep _ _ _ _ h.c5 (hno _ _ _ h.c5 (by decide) (by omega))).trans h.c5⟩
theorem SeI.same {Bl : Nat} {w W : World} {pre : List EntD} {x : EntD} (h : SeI Bl w pre W) (he : (serOf pre).getLast? = some x.se) : SeI Bl w (pre ++ [x]) W := by
  have hs : serOf (pre ++ [x]) = serOf pre := by rw [serOf_snoc]; unfold serStep; rw [if_pos he]
  exact ⟨h.bel, by rw [hs]; exact h.lst, h.c4, h.c5⟩
theorem results_cellsA2 {P : Program} {fn : Func} {p q : Tmp} {t1 t2 : TypeId} (h : fn.results = #[.cell p t1, .cell q t2]) (tmps : Array Value) (w : World) (a1 a2 : Addr) (v1 v2 : Value)
    (h1 : tmps.getD p undef = .pointer (some a1)) (h2 : tmps.getD q undef = .pointer (some a2)) (l1 : (loadVar t1 a1).run P w = .ok v1 w) (l2 : (loadVar t2 a2).run P w = .ok v2 w) :
    (results fn tmps).run P w = .ok (.tuple #[v1, v2]) w := by
  have e1 : tmps[p]?.getD undef = .pointer (some a1) := by simpa using h1
  have e2 : tmps[q]?.getD undef = .pointer (some a2) := by simpa using h2
  simp [results, h, e1, e2, asAddr, l1, l2]
theorem keeps_below {A B : World} (h : Below A.heap.size A B) : KeepsOthers A B := ⟨h.size, fun k o hk _ => (h.block k (Array.getElem?_eq_some_iff.1 hk).1).trans hk⟩

set_option maxRecDepth 100000 in
set_option maxHeartbeats 8000000 in
theorem series_go (gv g gen p a hh : Nat) (U V : List Bool) {B N gs gn Ls cs cn : Nat} {rw : Value} {st nw : List UInt8} {ws : List (Nat × List UInt8)} (es : List EntD) (ht : TreeR nw Ls a hh es) (hle : es.length ≤ 1000) (hcm : cntR hh es.length ≤ 900000) (w : World) (hv : ViewAt w gv g gen (p : Int) U V) (hd : Dk w B N g gs gn rw Ls cs cn st nw ws true (-1)) :
    CallsIn Fence.wide 3 Try.prog 29 #[.pointer (some ⟨gv, 0, none⟩), .agg #[.int .i64 (a : Int), .int .i64 (hh : Int)]] w fun e w' => (∃ A c, e = .returned (.tuple #[.slice A (serOf es).length c, .int .i64 0]) ∧ w'.ownsRow w.heap.size 3 1 (.slice A (serOf es).length c) (serOf es).length ((serOf es).map kdC)) ∧ Below w.heap.size w w' := by
  refine callsIn_of_wp_marks Try.func29 rfl trivial ?_ rfl
  simp only [Try.ntmps29, List.size_toArray, List.length_cons, List.length_nil, Nat.reduceAdd, Nat.reduceSub, Array.replicate_succ, Array.replicate_zero, List.push_toArray, List.append_toArray, List.nil_append, List.cons_append]
  have HT := Lib.hid ht
  have HV := Lib.hid hv
  have HD := Lib.hid hd
  clear ht hv hd
  obtain ⟨w4, hw4⟩ : ∃ w4, w4 = ((((w.alloc (.cells #[.int .i64 (a : Int), .int .i64 (hh : Int)] 63)).alloc (.cells #[.slice none 0 0] 24)).alloc (.cells #[.int .i64 0] 28)).alloc (.cells #[.slice none 0 0] 24)) := ⟨_, rfl⟩
  have Z4 : Hid (w4.heap.size = w.heap.size + 4) := Lib.hid (by rw [hw4]; simp)
  have B4 : Hid (Below w.heap.size w w4) := Lib.hid (by rw [hw4]; exact ((((Below.refl _ _).alloc (Nat.le_refl _) _).alloc (by simp) _).alloc (by simp; omega) _).alloc (by simp; omega) _)
  have G3 : Hid (w4.heap[w.heap.size]? = some (.cells #[.int .i64 (a : Int), .int .i64 (hh : Int)] 63 (0, 0))) := Lib.hid (by
    rw [hw4]
    exact row_stays (row_stays (row_stays (heap_alloc_new w _) (alloc_bel rfl)) (alloc_bel rfl)) (alloc_bel rfl))
  have G4 : Hid (w4.heap[w.heap.size + 1]? = some (.cells #[.slice none 0 0] 24 (0, 0))) := Lib.hid (by
    rw [hw4]
    have h1 := heap_alloc_new (w.alloc (.cells #[.int .i64 (a : Int), .int .i64 (hh : Int)] 63)) (.cells #[.slice none 0 0] 24)
    rw [World.size_alloc] at h1
    exact row_stays (row_stays h1 (alloc_bel rfl)) (alloc_bel rfl))
  have G5 : Hid (w4.heap[w.heap.size + 1 + 1]? = some (.cells #[.int .i64 0] 28 (0, 0))) := Lib.hid (by
    rw [hw4]
    have h1 := heap_alloc_new ((w.alloc (.cells #[.int .i64 (a : Int), .int .i64 (hh : Int)] 63)).alloc (.cells #[.slice none 0 0] 24)) (.cells #[.int .i64 0] 28)
    rw [World.size_alloc, World.size_alloc] at h1
    exact row_stays h1 (alloc_bel rfl))
  obtain ⟨Bl, hBl⟩ : ∃ Bl, Bl = w.heap.size + 1 + 1 + 1 := ⟨_, rfl⟩
  have L4 : Hid (Boxed w4 Bl 24 (.slice none 0 0)) := Lib.hid (by
    rw [hw4, hBl]
    have h1 := heap_alloc_new (((w.alloc (.cells #[.int .i64 (a : Int), .int .i64 (hh : Int)] 63)).alloc (.cells #[.slice none 0 0] 24)).alloc (.cells #[.int .i64 0] 28)) (.cells #[.slice none 0 0] 24)
    rw [World.size_alloc, World.size_alloc, World.size_alloc] at h1
    exact h1)
  have HW4 := Lib.hid hw4
  have HBL := Lib.hid hBl
  clear hw4 hBl
  gi_wp2_with (rw [← HW4.out, ← HBL.out]; refine wideIn_load_row rfl 63 (.tmp 3) rfl w.heap.size rfl 63 _ (0, 0) _ G3.out Try.underlying63 rfl (by kernel_rfl) ?_)
  refine ⟨trivial, (entriesF_mk _ gv (a : Int) (hh : Int) w4).mono ?_⟩
  rintro e w9 ⟨rfl, hw9⟩
  have Z9 : Hid (w9.heap.size = w.heap.size + 6) := Lib.hid (by rw [hw9]; simp [Z4.out])
  have B49 : Hid (Below w4.heap.size w4 w9) := Lib.hid (by rw [hw9]; exact ((Below.refl _ _).alloc (Nat.le_refl _) _).alloc (by simp) _)
  have X1 : Hid (w9.heap[w4.heap.size]? = some (.cells #[.pointer (some ⟨gv, 0, none⟩)] 61 (0, 0))) := Lib.hid (by rw [hw9]; exact row_stays (heap_alloc_new _ _) (alloc_bel rfl))
  have X2 : Hid (w9.heap[w4.heap.size + 1]? = some (.cells #[.int .i64 (a : Int), .int .i64 (hh : Int)] 63 (0, 0))) := Lib.hid (by
    rw [hw9]
    have h1 := heap_alloc_new (w4.alloc (.cells #[.pointer (some ⟨gv, 0, none⟩)] 61)) (.cells #[.int .i64 (a : Int), .int .i64 (hh : Int)] 63)
    rw [World.size_alloc] at h1
    exact h1)
  clear hw9
  have B9 : Hid (Below w.heap.size w w9) := Lib.hid (B4.out.trans (B49.out.mono B4.out.size))
  have I9 : Hid (SeI Bl w [] w9) := Lib.hid ⟨B9.out, ⟨.slice none 0 0, row_stays L4.out B49.out, World.ownsRow_nil _ _ _ _⟩, row_stays G4.out B49.out, row_stays G5.out B49.out⟩
  have hN9 : w.heap.size ≤ w9.heap.size := B9.out.size
  have hBl9 : Bl < w9.heap.size := by rw [HBL.out, Z9.out]; omega
  have hBlw : w.heap.size ≤ Bl := by have := HBL.out; omega
  gi_wp2
  refine wpIn_rangeFunc_T rfl (by decide) (gf := 59) (lb := #[.pointer (some ⟨w4.heap.size, 0, none⟩), .pointer (some ⟨w4.heap.size + 1, 0, none⟩)]) rfl trivial (enters_of Try.func59 (by kernel_rfl) rfl)
    (entriesF_seq 2 gv w.heap.size g gen p a hh w4.heap.size (w4.heap.size + 1) U V (ownTk Bl) w rfl HV.out HD.out es HT.out (by omega))
    (fun A B l o hl ho hc h => h.keep l o ho (fun cs fr e => by subst e; cases hc)) KpC.trans (fun W l o o' hl ho hc => kpTk_put hBl9 hN9 W l o o' hl ho hc) (fun _ => rfl)
    (fun W1 hb hz => ⟨B9.out.trans (hb.mono hN9), row_stays X1.out hb, row_stays X2.out hb⟩)
    (fun xs s A B row hs hg hr => hs) (fun xs s A B row hs hg hr => hs)
    (fun pre W => SeI Bl w pre W) (fun _ _ _ => False)
    (ownFrom_ck hN9 (fun s A h => h.bel.size) (fun s A B h k => h.ck k))
    (fun c s A B row hs hg hr => hs)
    (fun s A B h k => h.ck k.ck) (fun s A h => h.ok) (fun s A B h k => h.cc k) I9.out
    (fun x a' W => ∃ Bx, W.heap[Bx]? = some (.cells #[.int .i64 x.se, .int .i64 x.st, .int .i64 x.en, .int .i64 x.ad, .int .i64 x.le, .int .i64 x.cn, .int .i64 x.co, .int .u32 x.cr] 77 (0, 0)) ∧ a' = { tmps := #[.pointer (some ⟨gv, 0, none⟩), .agg #[.int .i64 (a : Int), .int .i64 (hh : Int)], undef, .pointer (some ⟨w.heap.size, 0, none⟩), .pointer (some ⟨w.heap.size + 1, 0, none⟩), .pointer (some ⟨w.heap.size + 1 + 1, 0, none⟩), .pointer (some ⟨Bl, 0, none⟩), .pointer (some ⟨Bx, 0, none⟩), .int .i64 0, .pointer (some ⟨gv, 0, none⟩), .agg #[.int .i64 (a : Int), .int .i64 (hh : Int)], .func (.func 59) #[] #[.pointer (some ⟨w4.heap.size, 0, none⟩), .pointer (some ⟨w4.heap.size + 1, 0, none⟩)], .agg #[.int .i64 x.se, .int .i64 x.st, .int .i64 x.en, .int .i64 x.ad, .int .i64 x.le, .int .i64 x.cn, .int .i64 x.co, .int .u32 x.cr], .int .i64 0, undef, undef, undef, undef, undef, undef, undef, undef, undef, undef, undef, undef, undef, undef, undef, undef, undef, undef, undef, undef, undef, undef, undef, undef, undef], defers := [] })
    (fun x a' s A B row hs hg hr => by
      obtain ⟨Bx, h1, h2⟩ := hs
      exact ⟨Bx, (hg.block Bx (Array.getElem?_eq_some_iff.1 h1).1 (fun e => by
        obtain ⟨_, o, ho, hc⟩ := hr Bx e.symm
        rw [h1] at ho
        cases ho
        cases hc)).trans h1, h2⟩) ?assign ?body ?done ?stop
  case assign =>
    rintro l pre x W K hi hK
    have HK := Lib.hid hK
    clear hK
    dsimp only [enV]
    gi_wp2_with (refine inF_store_row rfl 77 (.tmp 7) (.tmp 12) rfl W.heap.size #[.int .i64 x.se, .int .i64 x.st, .int .i64 x.en, .int .i64 x.ad, .int .i64 x.le, .int .i64 x.cn, .int .i64 x.co, .int .u32 x.cr] rfl rfl 77 _ (heap_alloc_new _ _) (by kernel_rfl) rfl (by simp [Value.oneCell']) ?_; rw [World.setRow_alloc_new])
    refine HK.out _ _ ((KeepsOthers.alloc _ _).from _) (kpTk_below (alloc_bel rfl) hi.bel.size (by obtain ⟨v, h1, _⟩ := hi.lst; exact h1.lt)) (hi.ck (ck_below (alloc_bel rfl) hi.bel.size)) ⟨W.heap.size, heap_alloc_new _ _, rfl⟩
  case body =>
    rintro l pre x a' W hl ⟨r, hr⟩ hi ⟨Bx, hBx, rfl⟩ hNlt
    obtain ⟨v, hv, hrow⟩ := hi.lst
    obtain ⟨Av, cv, rfl⟩ := row_form hrow
    obtain ⟨m, hm⟩ : ∃ m, m = (serOf pre).length := ⟨_, rfl⟩
    rw [← hm] at hv hrow
    have hmle : m ≤ 1000 := by rw [hm]; exact Nat.le_trans (serOf_len pre) (by omega)
    have HIT := Lib.hid hi
    have HV2 := Lib.hid hv
    have HROW := Lib.hid hrow
    have HBX := Lib.hid hBx
    have HM := Lib.hid hm
    have HNL := Lib.hid hNlt
    clear hi hv hrow hBx hNlt hr hm
    gi_wp2
    have g1 : ∀ y : SubW W.heap.size W, y.at_.cell? ⟨Bl, 0, none⟩ = some (.slice Av m cv) := fun y => nd_cell (row_stays HV2.out y.ok_) 0 _ rfl
    have g2 : ∀ y : SubW W.heap.size W, y.at_.cell? ⟨Bx, 0, none⟩ = some (.int .i64 x.se) := fun y => nd_cell (row_stays HBX.out y.ok_) 0 _ rfl
    have hround : ∀ (y : SubW W.heap.size W), SeI Bl w pre y.at_ ∧ Boxed y.at_ Bl 24 (.slice Av m cv) ∧ y.at_.ownsRow w.heap.size 3 1 (.slice Av m cv) m ((serOf pre).map kdC) ∧ y.at_.heap[Bx]? = some (.cells #[.int .i64 x.se, .int .i64 x.st, .int .i64 x.en, .int .i64 x.ad, .int .i64 x.le, .int .i64 x.cn, .int .i64 x.co, .int .u32 x.cr] 77 (0, 0)) ∧ KeepsFrom w9.heap.size W y.at_ ∧ KpC w.heap.size (ownTk Bl) W y.at_ := fun y =>
      ⟨HIT.out.ck (ck_below y.ok_ HIT.out.bel.size), row_stays HV2.out y.ok_, row_below HROW.out y.ok_, row_stays HBX.out y.ok_, (keeps_below y.ok_).from _, kpTk_below y.ok_ HIT.out.bel.size HV2.out.lt⟩
    have HRD := Lib.hid hround
    clear hround
    obtain ⟨ji, hji, hjz0, hjz1, hjz2⟩ := info_parts infoIntN
    have hm63 : (m : Int) ≤ 1000 := by omega
    by_cases h0 : m = 0
    · subst h0
      have hne : (serOf pre).getLast? ≠ some x.se := by
        have h1 : serOf pre = [] := List.eq_nil_of_length_eq_zero (by rw [← HM.out])
        rw [h1]
        simp
      have HNE := Lib.hid hne
      clear hne
      refine region_below_round W.heap.size W (Below.refl _ _) (by kernel_rfl) (by kernel_rfl) (by kernel_rfl) (by rintro ⟨a, w, h⟩; exact h) ?_
      repeat (go_big_quiet_step (fail))
      refine wpQuiet_nil ?_
      rintro w' ⟨y, rfl⟩
      obtain ⟨q1, q2, q3, q4, q5, q6⟩ := HRD.out y
      obtain ⟨V0, hV0⟩ : ∃ V0, V0 = y.at_ := ⟨_, rfl⟩
      rw [← hV0] at q1 q2 q3 q4 q5 q6 ⊢
      have HIV := Lib.hid q1
      have HVV := Lib.hid q2
      have HRV := Lib.hid q3
      have HBV := Lib.hid q4
      have HKF := Lib.hid q5
      have HKP := Lib.hid q6
      clear hV0 q1 q2 q3 q4 q5 q6
      have hc := HVV.out.cell
      have hf := HVV.out.frozen
      have hx0 := nd_cell HBV.out 0 (.int .i64 x.se) rfl
      clear g1 g2
      gi_wp2_with (gi_at_builtin; refine wpListIn_append_own_at _ rfl _ _ 24 rfl w.heap.size 3 ji (.int .i64 0) 1 8 Try.underlying24 hji hjz0 hjz1 hjz2 (by rfl) (by decide) _ _ _ rfl (HRV.out.alloc _) ⟨V0.heap.size, 0, none⟩ 1 1 [.int .i64 x.se] rfl (by rfl) (cells_new V0 [.int .i64 x.se] _) (by simp [Value.oneCell']) (by unfold maxLen; omega) (by omega) (by have := HIV.out.bel.size; rw [World.size_alloc]; omega) ?_; intro v' w1 hown' hgrow _ hblk; obtain ⟨g', cap', rfl⟩ := ownsRow_succ hown'; have HTK := Lib.hid (HIV.out.app (x := x) (by rw [HBL.out]; omega) HVV.out (by rw [← HM.out]; exact HRV.out) HNE.out (by rw [← HM.out]; exact hown') hgrow hblk); have HKP2 := Lib.hid (kpTk_app HVV.out (by decide) HRV.out HIV.out.bel.size hBlw hown' hgrow hblk); have happ := HVV.out.appended (by decide) HRV.out HIV.out.bel.size hBlw hown' hgrow; have HKO := Lib.hid happ.2.2.2.1; have hc1 := happ.1.cell; have hf1 := happ.1.frozen; clear happ hown' hgrow hblk)
      exact ⟨HKF.out.trans (HKO.out.from _), HKP.out.trans HKP2.out, HTK.out⟩
    · obtain ⟨L, hL⟩ : ∃ L, (serOf pre)[m - 1]? = some L := ⟨_, List.getElem?_eq_getElem (by rw [← HM.out]; omega)⟩
      have hlast : (serOf pre).getLast? = some L := by rw [List.getLast?_eq_getElem?, ← HM.out]; exact hL
      have HLAST := Lib.hid hlast
      obtain ⟨gA, rfl, hgA, hcell⟩ := row_cells HROW.out (by
        intro e
        have h1 := congrArg List.length e
        rw [List.length_map, ← HM.out] at h1
        simp at h1
        omega)
      have hcq : W.cell? ⟨gA, m - 1, none⟩ = some (.int .i64 L) := hcell (m - 1) _ (by rw [List.getElem?_map, hL]; rfl)
      have hlA := World.block_lt_of_cell? _ _ hcq
      have g3 : ∀ y : SubW W.heap.size W, y.at_.cell? ⟨gA, m - 1, none⟩ = some (.int .i64 L) := fun y => (y.ok_.cell (p := ⟨gA, m - 1, none⟩) hlA).trans hcq
      have hk0 : ((m : Int) == 0) = false := by simp; omega
      clear hlast hcell hL hgA hcq hlA
      by_cases hLx : L = x.se
      · have hLe : (L == x.se) = true := by rw [hLx]; exact beq_self_eq_true _
        refine region_below_round W.heap.size W (Below.refl _ _) (by kernel_rfl) (by kernel_rfl) (by kernel_rfl) (by rintro ⟨a, w, h⟩; exact h) ?_
        repeat (go_big_quiet_step (fail))
        refine wpQuiet_nil ?_
        rintro w' ⟨y, rfl⟩
        obtain ⟨q1, q2, q3, q4, q5, q6⟩ := HRD.out y
        obtain ⟨V0, hV0⟩ : ∃ V0, V0 = y.at_ := ⟨_, rfl⟩
        rw [← hV0] at q1 q2 q3 q4 q5 q6 ⊢
        have HIV := Lib.hid q1
        have HVV := Lib.hid q2
        have HRV := Lib.hid q3
        have HBV := Lib.hid q4
        have HKF := Lib.hid q5
        have HKP := Lib.hid q6
        clear hV0 q1 q2 q3 q4 q5 q6
        have hc := HVV.out.cell
        have hf := HVV.out.frozen
        have hx0 := nd_cell HBV.out 0 (.int .i64 x.se) rfl
        gi_wp2_with fail
        exact ⟨HKF.out, HKP.out, HIV.out.same (by rw [HLAST.out, hLx])⟩
      · have hLe : (L == x.se) = false := beq_eq_false_iff_ne.2 hLx
        have HNE : Hid ((serOf pre).getLast? ≠ some x.se) := Lib.hid (by rw [HLAST.out]; intro e; exact hLx (Option.some.inj e))
        refine region_below_round W.heap.size W (Below.refl _ _) (by kernel_rfl) (by kernel_rfl) (by kernel_rfl) (by rintro ⟨a, w, h⟩; exact h) ?_
        repeat (go_big_quiet_step (fail))
        refine wpQuiet_nil ?_
        rintro w' ⟨y, rfl⟩
        obtain ⟨q1, q2, q3, q4, q5, q6⟩ := HRD.out y
        obtain ⟨V0, hV0⟩ : ∃ V0, V0 = y.at_ := ⟨_, rfl⟩
        rw [← hV0] at q1 q2 q3 q4 q5 q6 ⊢
        have HIV := Lib.hid q1
        have HVV := Lib.hid q2
        have HRV := Lib.hid q3
        have HBV := Lib.hid q4
        have HKF := Lib.hid q5
        have HKP := Lib.hid q6
        clear hV0 q1 q2 q3 q4 q5 q6
        have hc := HVV.out.cell
        have hf := HVV.out.frozen
        have hx0 := nd_cell HBV.out 0 (.int .i64 x.se) rfl
        clear g1 g2
        gi_wp2_with (gi_at_builtin; refine wpListIn_append_own_at _ rfl _ _ 24 rfl w.heap.size 3 ji (.int .i64 0) 1 8 Try.underlying24 hji hjz0 hjz1 hjz2 (by rfl) (by decide) _ _ _ rfl (HRV.out.alloc _) ⟨V0.heap.size, 0, none⟩ 1 1 [.int .i64 x.se] rfl (by rfl) (cells_new V0 [.int .i64 x.se] _) (by simp [Value.oneCell']) (by unfold maxLen; omega) (by omega) (by have := HIV.out.bel.size; rw [World.size_alloc]; omega) ?_; intro v' w1 hown' hgrow _ hblk; obtain ⟨g', cap', rfl⟩ := ownsRow_succ hown'; have HTK := Lib.hid (HIV.out.app (x := x) (by rw [HBL.out]; omega) HVV.out (by rw [← HM.out]; exact HRV.out) HNE.out (by rw [← HM.out]; exact hown') hgrow hblk); have HKP2 := Lib.hid (kpTk_app HVV.out (by decide) HRV.out HIV.out.bel.size hBlw hown' hgrow hblk); have happ := HVV.out.appended (by decide) HRV.out HIV.out.bel.size hBlw hown' hgrow; have HKO := Lib.hid happ.2.2.2.1; have hc1 := happ.1.cell; have hf1 := happ.1.frozen; clear happ hown' hgrow hblk)
        exact ⟨HKF.out.trans (HKO.out.from _), HKP.out.trans HKP2.out, HTK.out⟩
  case done =>
    rintro D ys W hD rfl hi hK
    obtain ⟨v, hv, hrow⟩ := hi.lst
    obtain ⟨Av, cv, rfl⟩ := row_form hrow
    have hc := hv.cell
    have h4 : Boxed W (w.heap.size + 1) 24 (.slice none 0 0) := hi.c4
    have h5 : Boxed W (w.heap.size + 1 + 1) 28 (.int .i64 0) := hi.c5
    have c4 := h4.cell
    have f4 := h4.frozen
    have c5 := h5.cell
    have f5 := h5.frozen
    have HI := Lib.hid hi
    have HROW := Lib.hid hrow
    have HK := Lib.hid hK
    have H4 := Lib.hid h4
    have H5 := Lib.hid h5
    have HDD := Lib.hid hD
    clear hi hv hrow hK h4 h5 hD
    gi_wp2
    obtain ⟨ln, hln⟩ : ∃ ln, ln = (serOf ys).length := ⟨_, rfl⟩
    have HROW2 := HROW.out
    rw [← hln] at HROW2 ⊢
    obtain ⟨u1, hu1⟩ : ∃ u1, u1 = W.setCell ⟨w.heap.size + 1, 0, none⟩ (.slice Av ln cv) := ⟨_, rfl⟩
    obtain ⟨u2, hu2⟩ : ∃ u2, u2 = u1.setCell ⟨w.heap.size + 1 + 1, 0, none⟩ (.int .i64 0) := ⟨_, rfl⟩
    have O1 : OuterX (fun k => k = w.heap.size + 1 ∨ k = w.heap.size + 1 + 1) W u1 := by rw [hu1]; exact (OuterX.refl _ W).grown (grownBy_setCell' _ _ _) (fun k hk => .inl (by cases hk; exact .inl rfl))
    have O2 : OuterX (fun k => k = w.heap.size + 1 ∨ k = w.heap.size + 1 + 1) W u2 := by rw [hu2]; exact O1.grown (grownBy_setCell' _ _ _) (fun k hk => .inl (by cases hk; exact .inr rfl))
    have p4 : Boxed u2 (w.heap.size + 1) 24 (.slice Av ln cv) := by rw [hu2, hu1]; exact Boxed.other (H4.out.set _) (by omega) _
    have p5 : Boxed u2 (w.heap.size + 1 + 1) 28 (.int .i64 0) := by
      have q5 : Boxed u1 (w.heap.size + 1 + 1) 28 (.int .i64 0) := by rw [hu1]; exact Boxed.other H5.out (by omega) _
      rw [hu2]
      exact q5.set _
    have hkd : u2.heap[D]? = some (.deferred (some [])) := O2.heap HK.out (by have := HDD.out; have := Z9.out; omega)
    rw [← hu1, ← hu2]
    clear hu1 hu2 c4 f4 c5 f5 hc
    refine ⟨by simp, .inl ⟨_, _, rfl, run_takeDeferred hkd, ?_⟩⟩
    have hpg := grownBy_putObj' u2 D (.deferred none)
    have hnD : ∀ k t u, Boxed u2 k t u → some k ≠ some D := fun k t u hb e => by
      cases e
      rw [show u2.heap[D]? = _ from hb] at hkd
      cases hkd
    have r4 := p4.kept hpg (hnD _ _ _ p4)
    have r5 := p5.kept hpg (hnD _ _ _ p5)
    refine ⟨.tuple #[.slice Av ln cv, .int .i64 0], results_cellsA2 (p := 4) (q := 5) rfl _ _ ⟨w.heap.size + 1, 0, none⟩ ⟨w.heap.size + 1 + 1, 0, none⟩ _ _ rfl rfl (run_loadVar_one _ _ _ _ _ Try.underlying24 rfl r4.cell) (run_loadVar_one _ _ _ _ _ Try.underlying28 rfl r5.cell), ⟨Av, cv, rfl, ?_⟩, ?_⟩
    · refine row_keep HROW2 (fun k cur hb hc => ?_)
      have hkX : ¬ (k = w.heap.size + 1 ∨ k = w.heap.size + 1 + 1) := by
        rintro (e | e)
        · rw [e, HI.out.c4] at hc; cases hc
        · rw [e, HI.out.c5] at hc; cases hc
      have h2 := O2.heap hc hkX
      exact ((hpg.block k (Array.getElem?_eq_some_iff.1 h2).1 (fun e => by cases e; rw [hkd] at h2; cases h2)).trans h2).trans hc.symm
    · refine ⟨O2.os.trans HI.out.bel.os, O2.tape.trans HI.out.bel.tape, O2.output.trans HI.out.bel.output, Nat.le_trans HI.out.bel.size (Nat.le_trans O2.size hpg.size), fun k hk => ?_⟩
      have h1 := HI.out.bel.block k hk
      have h2 := O2.block k (Nat.lt_of_lt_of_le hk HI.out.bel.size) (by omega)
      have h3 := hpg.block k (Nat.lt_of_lt_of_le (Nat.lt_of_lt_of_le hk HI.out.bel.size) O2.size) (fun e => by cases e; have := HDD.out; omega)
      exact h3.trans (h2.trans h1)
  case stop =>
    rintro D c pre W hD hs hf hK
    exact hf.elim
end Go.Proofs.Ytgkddhncfaeidaa
