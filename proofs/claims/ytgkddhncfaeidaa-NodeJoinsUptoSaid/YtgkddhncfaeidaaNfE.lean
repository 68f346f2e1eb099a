/- The reference's keys and entries: key, Less, RightEntry of whatever key and entry. -/
import Derived.Test.YtgkddhncfaeidaaNdC
namespace Go.Proofs.Ytgkddhncfaeidaa
open Go.ChangeShapes Go.WideShapes Go.ChangeAt Go.RowKit CrcM PageM
set_option linter.unusedVariables false

theorem refKey_any (s t : Int) (w : World) :
    Calls Try.prog 43 #[.agg #[.int .i64 s, .int .i64 t]] w fun e w' => e = .returned (.bool (decide (okKey s))) ∧ Below w.heap.size w w' := by
  by_cases h1 : 0 ≤ s
  · have d1 : decide ((0 : Int) ≤ s) = true := by simpa using h1
    go_enter Try.func43, Try.ntmps43
    go_wp2_with fail
    go_ret
    exact ⟨nd_retB (by rw [decide_eq_decide]; unfold okKey; omega), (Below.refl _ _).alloc (Nat.le_refl _) _⟩
  · have d1 : decide ((0 : Int) ≤ s) = false := by simpa using h1
    go_enter Try.func43, Try.ntmps43
    go_wp2_with fail
    go_ret
    exact ⟨nd_retB (by symm; exact decide_eq_false (fun h => by have := h.1; omega)), (Below.refl _ _).alloc (Nat.le_refl _) _⟩
theorem refKey_d (e : KeyD) (r : Bool) (hr : decide (okKey e.se) = r) (w : World) :
    Calls Try.prog 43 #[.agg #[.int .i64 e.se, .int .i64 e.st]] w fun e' w' => e' = .returned (.bool r) ∧ Below w.heap.size w w' := by subst hr; exact refKey_any e.se e.st w

set_option maxRecDepth 100000 in
theorem refLess_any (a b : KeyD) (w : World) :
    Calls Try.prog 42 #[.agg #[.int .i64 a.se, .int .i64 a.st], .agg #[.int .i64 b.se, .int .i64 b.st]] w fun e w' => e = .returned (.bool (lessB a b)) ∧ Below w.heap.size w w' := by
  have hbb : Below w.heap.size w ((w.alloc (.cells #[.int .i64 a.se, .int .i64 a.st] 48)).alloc (.cells #[.int .i64 b.se, .int .i64 b.st] 48)) := below_two (Below.refl _ _)
  have HB := Lib.hid hbb
  clear hbb
  by_cases h1 : a.se < b.se
  · have d1 : decide (a.se < b.se) = true := by simpa using h1
    have HL : Hid (true = lessB a b) := Lib.hid (by simp [lessB, h1])
    clear h1
    go_enter Try.func42, Try.ntmps42
    go_wp2_with fail
    go_ret
    exact ⟨nd_retB HL.out, HB.out⟩
  · have d1 : decide (a.se < b.se) = false := by simpa using h1
    by_cases h2 : a.se = b.se
    · have d2 : (a.se == b.se) = true := by simp [h2]
      have HL : Hid (decide (a.st < b.st) = lessB a b) := Lib.hid (by simp [lessB, h2])
      clear h1 h2
      go_enter Try.func42, Try.ntmps42
      go_wp2_with fail
      go_ret
      exact ⟨nd_retB HL.out, HB.out⟩
    · have d2 : (a.se == b.se) = false := by simp [h2]
      have HL : Hid (false = lessB a b) := Lib.hid (by simp [lessB, h1, h2])
      clear h1 h2
      go_enter Try.func42, Try.ntmps42
      go_wp2_with fail
      go_ret
      exact ⟨nd_retB HL.out, HB.out⟩
theorem refLess_r (a b : KeyD) (r : Bool) (hr : lessB a b = r) (w : World) :
    Calls Try.prog 42 #[.agg #[.int .i64 a.se, .int .i64 a.st], .agg #[.int .i64 b.se, .int .i64 b.st]] w fun e w' => e = .returned (.bool r) ∧ Below w.heap.size w w' := by subst hr; exact refLess_any a b w
set_option maxHeartbeats 4000000 in
set_option maxRecDepth 100000 in
theorem refEntry_any (e : EntD) (r : Bool) (hr : decide (okEnt e) = r) (w : World) :
    Calls Try.prog 41 #[.agg #[.int .i64 e.se, .int .i64 e.st, .int .i64 e.en, .int .i64 e.ad, .int .i64 e.le, .int .i64 e.cn, .int .i64 e.co, .int .u32 e.cr]] w fun e' w' => e' = .returned (.bool r) ∧ Below w.heap.size w w' := by
  obtain ⟨se, st, en, ad, le, cn, co, cr⟩ := e
  dsimp only
  have hok : okEnt ⟨se, st, en, ad, le, cn, co, cr⟩ ↔ okKey se ∧ st ≤ en ∧ 2 ≤ ad ∧ ad ≤ 511 ∧ 1 ≤ le ∧ le ≤ 65535 ∧ ad + (le + 255) / 256 ≤ 512 ∧ 1 ≤ cn ∧ cn ≤ 200 ∧ 0 ≤ co ∧ co ≤ 15 := by
    unfold okEnt okAddr
    dsimp only
    constructor
    · rintro ⟨h0, h1, h2, h3, ⟨h4, h5⟩, h6, h7, h8, h9, h10⟩
      exact ⟨h0, h1, h4, by omega, h2, h3, h6, h7, h8, h9, by omega⟩
    · rintro ⟨h0, h1, h4, h5, h2, h3, h6, h7, h8, h9, h10⟩
      exact ⟨h0, h1, h2, h3, ⟨h4, by omega⟩, h6, h7, h8, h9, by omega⟩
  obtain ⟨W, eW⟩ : ∃ W, W = w.alloc (.cells #[.int .i64 se, .int .i64 st, .int .i64 en, .int .i64 ad, .int .i64 le, .int .i64 cn, .int .i64 co, .int .u32 cr] 51) := ⟨_, rfl⟩
  have hrow : W.heap[w.heap.size]? = some (.cells #[.int .i64 se, .int .i64 st, .int .i64 en, .int .i64 ad, .int .i64 le, .int .i64 cn, .int .i64 co, .int .u32 cr] 51 (0, 0)) := by rw [eW]; exact heap_alloc_new _ _
  have hbel : Below w.heap.size w W := by rw [eW]; exact (Below.refl _ _).alloc (Nat.le_refl _) _
  have EW := Lib.hid eW.symm
  have HB := Lib.hid hbel
  have a0 := nd_cell hrow 0 _ rfl
  have a1 := nd_cell hrow 1 _ rfl
  have HROW := Lib.hid hrow
  obtain ⟨P, hP⟩ : ∃ P, P = (le + 255) / 256 := ⟨_, rfl⟩
  obtain ⟨rk, hrk⟩ : ∃ x, x = decide (okKey se) := ⟨_, rfl⟩
  have HRK := Lib.hid hrk
  have HP := Lib.hid hP
  have HOK := Lib.hid hok
  have HR := Lib.hid hr
  clear hrk hr hP hrow hbel eW hok
  by_cases h0 : rk = true
  · subst h0
    by_cases h1 : st ≤ en
    · have d1 : decide (st ≤ en) = true := by simpa using h1
      by_cases h2 : 2 ≤ ad
      · have d2 : decide ((2 : Int) ≤ ad) = true := by simpa using h2
        by_cases h3 : ad ≤ 511
        · have d3 : decide (ad ≤ 511) = true := by simpa using h3
          by_cases h4 : 1 ≤ le
          · have d4 : decide ((1 : Int) ≤ le) = true := by simpa using h4
            by_cases h5 : le ≤ 65535
            · have d5 : decide (le ≤ 65535) = true := by simpa using h5
              have hw1 : wrap64 (le + 255) = le + 255 := IntWalk.wrap64_in _ ⟨by omega, by omega⟩
              have hq1 : (le + 255).tdiv 256 = P := by rw [HP.out, Int.tdiv_eq_ediv_of_nonneg (by omega)]
              have hq2 : wrap64 P = P := by have := HP.out; exact IntWalk.wrap64_in _ ⟨by omega, by omega⟩
              have hw2 : wrap64 (ad + P) = ad + P := by have := HP.out; exact IntWalk.wrap64_in _ ⟨by omega, by omega⟩
              by_cases h6 : ad + P ≤ 512
              · have d6 : decide (ad + P ≤ 512) = true := by simpa using h6
                by_cases h7 : 1 ≤ cn
                · have d7 : decide ((1 : Int) ≤ cn) = true := by simpa using h7
                  by_cases h8 : cn ≤ 200
                  · have d8 : decide (cn ≤ 200) = true := by simpa using h8
                    by_cases h9 : 0 ≤ co
                    · have d9 : decide ((0 : Int) ≤ co) = true := by simpa using h9
                      go_enter Try.func41, Try.ntmps41
                      go_upto_region 1 with fail
                      rw [EW.out]
                      go_wp2_with (go_at_call 43; (refine (refKey_d ⟨se, st⟩ _ HRK.out.symm _).mono ?_); rintro e' w1 ⟨rfl, hb1⟩; have hk1 := (hb1.block w.heap.size (Array.getElem?_eq_some_iff.1 HROW.out).1).trans HROW.out; have c0 := nd_cell hk1 0 _ rfl; have c1 := nd_cell hk1 1 _ rfl; have c2 := nd_cell hk1 2 _ rfl; have c3 := nd_cell hk1 3 _ rfl; have c4 := nd_cell hk1 4 _ rfl; have c5 := nd_cell hk1 5 _ rfl; have c6 := nd_cell hk1 6 _ rfl; have c7 := nd_cell hk1 7 _ rfl; have HB1 := Lib.hid hb1; clear hb1 hk1 a0 a1)
                      go_ret
                      refine ⟨nd_retB ?_, HB.out.trans (HB1.out.mono HB.out.size)⟩
                      rw [← HR.out, decide_eq_decide, HOK.out]
                      have e0 : okKey se := of_decide_eq_true HRK.out.symm; have eP := HP.out; subst eP
                      exact ⟨fun h => ⟨e0, h1, h2, h3, h4, h5, h6, h7, h8, h9, h⟩, fun h => h.2.2.2.2.2.2.2.2.2.2⟩
                    · have d9 : decide ((0 : Int) ≤ co) = false := by simpa using h9
                      go_enter Try.func41, Try.ntmps41
                      go_upto_region 1 with fail
                      rw [EW.out]
                      go_wp2_with (go_at_call 43; (refine (refKey_d ⟨se, st⟩ _ HRK.out.symm _).mono ?_); rintro e' w1 ⟨rfl, hb1⟩; have hk1 := (hb1.block w.heap.size (Array.getElem?_eq_some_iff.1 HROW.out).1).trans HROW.out; have c0 := nd_cell hk1 0 _ rfl; have c1 := nd_cell hk1 1 _ rfl; have c2 := nd_cell hk1 2 _ rfl; have c3 := nd_cell hk1 3 _ rfl; have c4 := nd_cell hk1 4 _ rfl; have c5 := nd_cell hk1 5 _ rfl; have c6 := nd_cell hk1 6 _ rfl; have c7 := nd_cell hk1 7 _ rfl; have HB1 := Lib.hid hb1; clear hb1 hk1 a0 a1)
                      go_ret
                      refine ⟨nd_retB ?_, HB.out.trans (HB1.out.mono HB.out.size)⟩
                      rw [← HR.out]; symm; rw [decide_eq_false_iff_not, HOK.out]; intro hx
                      have h' := hx.2.2.2.2.2.2.2.2.2.1; omega
                  · have d8 : decide (cn ≤ 200) = false := by simpa using h8
                    go_enter Try.func41, Try.ntmps41
                    go_upto_region 1 with fail
                    rw [EW.out]
                    go_wp2_with (go_at_call 43; (refine (refKey_d ⟨se, st⟩ _ HRK.out.symm _).mono ?_); rintro e' w1 ⟨rfl, hb1⟩; have hk1 := (hb1.block w.heap.size (Array.getElem?_eq_some_iff.1 HROW.out).1).trans HROW.out; have c0 := nd_cell hk1 0 _ rfl; have c1 := nd_cell hk1 1 _ rfl; have c2 := nd_cell hk1 2 _ rfl; have c3 := nd_cell hk1 3 _ rfl; have c4 := nd_cell hk1 4 _ rfl; have c5 := nd_cell hk1 5 _ rfl; have c6 := nd_cell hk1 6 _ rfl; have c7 := nd_cell hk1 7 _ rfl; have HB1 := Lib.hid hb1; clear hb1 hk1 a0 a1)
                    go_ret
                    refine ⟨nd_retB ?_, HB.out.trans (HB1.out.mono HB.out.size)⟩
                    rw [← HR.out]; symm; rw [decide_eq_false_iff_not, HOK.out]; intro hx
                    have h' := hx.2.2.2.2.2.2.2.2.1; omega
                · have d7 : decide ((1 : Int) ≤ cn) = false := by simpa using h7
                  go_enter Try.func41, Try.ntmps41
                  go_upto_region 1 with fail
                  rw [EW.out]
                  go_wp2_with (go_at_call 43; (refine (refKey_d ⟨se, st⟩ _ HRK.out.symm _).mono ?_); rintro e' w1 ⟨rfl, hb1⟩; have hk1 := (hb1.block w.heap.size (Array.getElem?_eq_some_iff.1 HROW.out).1).trans HROW.out; have c0 := nd_cell hk1 0 _ rfl; have c1 := nd_cell hk1 1 _ rfl; have c2 := nd_cell hk1 2 _ rfl; have c3 := nd_cell hk1 3 _ rfl; have c4 := nd_cell hk1 4 _ rfl; have c5 := nd_cell hk1 5 _ rfl; have c6 := nd_cell hk1 6 _ rfl; have c7 := nd_cell hk1 7 _ rfl; have HB1 := Lib.hid hb1; clear hb1 hk1 a0 a1)
                  go_ret
                  refine ⟨nd_retB ?_, HB.out.trans (HB1.out.mono HB.out.size)⟩
                  rw [← HR.out]; symm; rw [decide_eq_false_iff_not, HOK.out]; intro hx
                  have h' := hx.2.2.2.2.2.2.2.1; omega
              · have d6 : decide (ad + P ≤ 512) = false := by simpa using h6
                go_enter Try.func41, Try.ntmps41
                go_upto_region 1 with fail
                rw [EW.out]
                go_wp2_with (go_at_call 43; (refine (refKey_d ⟨se, st⟩ _ HRK.out.symm _).mono ?_); rintro e' w1 ⟨rfl, hb1⟩; have hk1 := (hb1.block w.heap.size (Array.getElem?_eq_some_iff.1 HROW.out).1).trans HROW.out; have c0 := nd_cell hk1 0 _ rfl; have c1 := nd_cell hk1 1 _ rfl; have c2 := nd_cell hk1 2 _ rfl; have c3 := nd_cell hk1 3 _ rfl; have c4 := nd_cell hk1 4 _ rfl; have c5 := nd_cell hk1 5 _ rfl; have c6 := nd_cell hk1 6 _ rfl; have c7 := nd_cell hk1 7 _ rfl; have HB1 := Lib.hid hb1; clear hb1 hk1 a0 a1)
                go_ret
                refine ⟨nd_retB ?_, HB.out.trans (HB1.out.mono HB.out.size)⟩
                rw [← HR.out]; symm; rw [decide_eq_false_iff_not, HOK.out]; intro hx
                have eP := HP.out; have h' := hx.2.2.2.2.2.2.1; omega
            · have d5 : decide (le ≤ 65535) = false := by simpa using h5
              go_enter Try.func41, Try.ntmps41
              go_upto_region 1 with fail
              rw [EW.out]
              go_wp2_with (go_at_call 43; (refine (refKey_d ⟨se, st⟩ _ HRK.out.symm _).mono ?_); rintro e' w1 ⟨rfl, hb1⟩; have hk1 := (hb1.block w.heap.size (Array.getElem?_eq_some_iff.1 HROW.out).1).trans HROW.out; have c0 := nd_cell hk1 0 _ rfl; have c1 := nd_cell hk1 1 _ rfl; have c2 := nd_cell hk1 2 _ rfl; have c3 := nd_cell hk1 3 _ rfl; have c4 := nd_cell hk1 4 _ rfl; have c5 := nd_cell hk1 5 _ rfl; have c6 := nd_cell hk1 6 _ rfl; have c7 := nd_cell hk1 7 _ rfl; have HB1 := Lib.hid hb1; clear hb1 hk1 a0 a1)
              go_ret
              refine ⟨nd_retB ?_, HB.out.trans (HB1.out.mono HB.out.size)⟩
              rw [← HR.out]; symm; rw [decide_eq_false_iff_not, HOK.out]; intro hx
              have h' := hx.2.2.2.2.2.1; omega
          · have d4 : decide ((1 : Int) ≤ le) = false := by simpa using h4
            go_enter Try.func41, Try.ntmps41
            go_upto_region 1 with fail
            rw [EW.out]
            go_wp2_with (go_at_call 43; (refine (refKey_d ⟨se, st⟩ _ HRK.out.symm _).mono ?_); rintro e' w1 ⟨rfl, hb1⟩; have hk1 := (hb1.block w.heap.size (Array.getElem?_eq_some_iff.1 HROW.out).1).trans HROW.out; have c0 := nd_cell hk1 0 _ rfl; have c1 := nd_cell hk1 1 _ rfl; have c2 := nd_cell hk1 2 _ rfl; have c3 := nd_cell hk1 3 _ rfl; have c4 := nd_cell hk1 4 _ rfl; have c5 := nd_cell hk1 5 _ rfl; have c6 := nd_cell hk1 6 _ rfl; have c7 := nd_cell hk1 7 _ rfl; have HB1 := Lib.hid hb1; clear hb1 hk1 a0 a1)
            go_ret
            refine ⟨nd_retB ?_, HB.out.trans (HB1.out.mono HB.out.size)⟩
            rw [← HR.out]; symm; rw [decide_eq_false_iff_not, HOK.out]; intro hx
            have h' := hx.2.2.2.2.1; omega
        · have d3 : decide (ad ≤ 511) = false := by simpa using h3
          go_enter Try.func41, Try.ntmps41
          go_upto_region 1 with fail
          rw [EW.out]
          go_wp2_with (go_at_call 43; (refine (refKey_d ⟨se, st⟩ _ HRK.out.symm _).mono ?_); rintro e' w1 ⟨rfl, hb1⟩; have hk1 := (hb1.block w.heap.size (Array.getElem?_eq_some_iff.1 HROW.out).1).trans HROW.out; have c0 := nd_cell hk1 0 _ rfl; have c1 := nd_cell hk1 1 _ rfl; have c2 := nd_cell hk1 2 _ rfl; have c3 := nd_cell hk1 3 _ rfl; have c4 := nd_cell hk1 4 _ rfl; have c5 := nd_cell hk1 5 _ rfl; have c6 := nd_cell hk1 6 _ rfl; have c7 := nd_cell hk1 7 _ rfl; have HB1 := Lib.hid hb1; clear hb1 hk1 a0 a1)
          go_ret
          refine ⟨nd_retB ?_, HB.out.trans (HB1.out.mono HB.out.size)⟩
          rw [← HR.out]; symm; rw [decide_eq_false_iff_not, HOK.out]; intro hx
          have h' := hx.2.2.2.1; omega
      · have d2 : decide ((2 : Int) ≤ ad) = false := by simpa using h2
        go_enter Try.func41, Try.ntmps41
        go_upto_region 1 with fail
        rw [EW.out]
        go_wp2_with (go_at_call 43; (refine (refKey_d ⟨se, st⟩ _ HRK.out.symm _).mono ?_); rintro e' w1 ⟨rfl, hb1⟩; have hk1 := (hb1.block w.heap.size (Array.getElem?_eq_some_iff.1 HROW.out).1).trans HROW.out; have c0 := nd_cell hk1 0 _ rfl; have c1 := nd_cell hk1 1 _ rfl; have c2 := nd_cell hk1 2 _ rfl; have c3 := nd_cell hk1 3 _ rfl; have c4 := nd_cell hk1 4 _ rfl; have c5 := nd_cell hk1 5 _ rfl; have c6 := nd_cell hk1 6 _ rfl; have c7 := nd_cell hk1 7 _ rfl; have HB1 := Lib.hid hb1; clear hb1 hk1 a0 a1)
        go_ret
        refine ⟨nd_retB ?_, HB.out.trans (HB1.out.mono HB.out.size)⟩
        rw [← HR.out]; symm; rw [decide_eq_false_iff_not, HOK.out]; intro hx
        have h' := hx.2.2.1; omega
    · have d1 : decide (st ≤ en) = false := by simpa using h1
      go_enter Try.func41, Try.ntmps41
      go_upto_region 1 with fail
      rw [EW.out]
      go_wp2_with (go_at_call 43; (refine (refKey_d ⟨se, st⟩ _ HRK.out.symm _).mono ?_); rintro e' w1 ⟨rfl, hb1⟩; have hk1 := (hb1.block w.heap.size (Array.getElem?_eq_some_iff.1 HROW.out).1).trans HROW.out; have c0 := nd_cell hk1 0 _ rfl; have c1 := nd_cell hk1 1 _ rfl; have c2 := nd_cell hk1 2 _ rfl; have c3 := nd_cell hk1 3 _ rfl; have c4 := nd_cell hk1 4 _ rfl; have c5 := nd_cell hk1 5 _ rfl; have c6 := nd_cell hk1 6 _ rfl; have c7 := nd_cell hk1 7 _ rfl; have HB1 := Lib.hid hb1; clear hb1 hk1 a0 a1)
      go_ret
      refine ⟨nd_retB ?_, HB.out.trans (HB1.out.mono HB.out.size)⟩
      rw [← HR.out]; symm; rw [decide_eq_false_iff_not, HOK.out]; intro hx
      have h' := hx.2.1; omega
  · have d0 : rk = false := by simpa using h0
    subst d0
    clear h0
    go_enter Try.func41, Try.ntmps41
    go_upto_region 1 with fail
    rw [EW.out]
    go_wp2_with (go_at_call 43; (refine (refKey_d ⟨se, st⟩ _ HRK.out.symm _).mono ?_); rintro e' w1 ⟨rfl, hb1⟩; have hk1 := (hb1.block w.heap.size (Array.getElem?_eq_some_iff.1 HROW.out).1).trans HROW.out; have c0 := nd_cell hk1 0 _ rfl; have c1 := nd_cell hk1 1 _ rfl; have c2 := nd_cell hk1 2 _ rfl; have c3 := nd_cell hk1 3 _ rfl; have c4 := nd_cell hk1 4 _ rfl; have c5 := nd_cell hk1 5 _ rfl; have c6 := nd_cell hk1 6 _ rfl; have c7 := nd_cell hk1 7 _ rfl; have HB1 := Lib.hid hb1; clear hb1 hk1 a0 a1)
    go_ret
    refine ⟨nd_retB ?_, HB.out.trans (HB1.out.mono HB.out.size)⟩
    rw [← HR.out]; symm; rw [decide_eq_false_iff_not, HOK.out]; intro hx
    have e0 := HRK.out; rw [decide_eq_true hx.1] at e0; cases e0
end Go.Proofs.Ytgkddhncfaeidaa
