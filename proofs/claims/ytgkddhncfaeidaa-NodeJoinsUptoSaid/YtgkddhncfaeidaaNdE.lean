/- Keys and entries of nodes as plain data; what package node asks of each, whatever it is. -/
import Derived.Test.YtgkddhncfaeidaaNdPut
import Derived.Test.YtgkddhncfaeidaaPiTree
import Derived.Test.YtgkddhncfaeidaaNdR
namespace Go.Proofs.Ytgkddhncfaeidaa
open Go.ChangeShapes Go.WideShapes Go.ChangeAt Go.RowKit CrcM PageM
set_option linter.unusedVariables false

/-- A key. -/
structure KeyD where
  se : Int
  st : Int
/-- An entry. -/
structure EntD where
  se : Int
  st : Int
  en : Int
  ad : Int
  le : Int
  cn : Int
  co : Int
  cr : Int
def kyC (k : KeyD) : List Value := [.int .i64 k.se, .int .i64 k.st]
def enC (e : EntD) : List Value := [.int .i64 e.se, .int .i64 e.st, .int .i64 e.en, .int .i64 e.ad, .int .i64 e.le, .int .i64 e.cn, .int .i64 e.co, .int .u32 e.cr]
def EntD.key (e : EntD) : KeyD := ⟨e.se, e.st⟩
def okKey (s : Int) : Prop := 0 ≤ s ∧ s ≤ 4294967295
instance (s : Int) : Decidable (okKey s) := by unfold okKey; infer_instance
def okAddr (a : Int) : Prop := 2 ≤ a ∧ a < 512
instance (s : Int) : Decidable (okAddr s) := by unfold okAddr; infer_instance
def okEnt (e : EntD) : Prop := okKey e.se ∧ e.st ≤ e.en ∧ 1 ≤ e.le ∧ e.le ≤ 65535 ∧ okAddr e.ad ∧ e.ad + (e.le + 255) / 256 ≤ 512 ∧ 1 ≤ e.cn ∧ e.cn ≤ 200 ∧ 0 ≤ e.co ∧ e.co < 16
instance (e : EntD) : Decidable (okEnt e) := by unfold okEnt; infer_instance
/-- Is one key ahead of another? -/
def lessB (a b : KeyD) : Bool := decide (a.se < b.se ∨ a.se = b.se ∧ a.st < b.st)
def apartB (a b : EntD) : Bool := lessB a.key b.key && (decide (a.se ≠ b.se) || decide (a.en < b.st))

theorem nd_retB {a b : Bool} (h : a = b) : Ending.returned (Value.bool a) = Ending.returned (.bool b) := by rw [h]

theorem rightKey_any (s t : Int) (w : World) :
    Calls Try.prog 62 #[.agg #[.int .i64 s, .int .i64 t]] w fun e w' => e = .returned (.bool (decide (okKey s))) ∧ Below w.heap.size w w' := by
  by_cases h1 : 0 ≤ s
  · have d1 : decide ((0 : Int) ≤ s) = true := by simpa using h1
    go_enter Try.func62, Try.ntmps62
    go_wp2_with fail
    go_ret
    exact ⟨nd_retB (by first | (simp [okKey, h1]; done) | (symm; exact decide_eq_false (fun h => by have := h.1; omega)) | (simp [okKey]; omega)), (Below.refl _ _).alloc (Nat.le_refl _) _⟩
  · have d1 : decide ((0 : Int) ≤ s) = false := by simpa using h1
    go_enter Try.func62, Try.ntmps62
    go_wp2_with fail
    go_ret
    exact ⟨nd_retB (by first | (simp [okKey]; done) | (symm; exact decide_eq_false (fun h => by have := h.1; omega)) | (simp [okKey]; omega)), (Below.refl _ _).alloc (Nat.le_refl _) _⟩

theorem isAddr_any (a : Int) (w : World) :
    Calls Try.prog 64 #[.int .i64 a] w fun e w' => e = .returned (.bool (decide (okAddr a))) ∧ Below w.heap.size w w' := by
  by_cases h1 : 2 ≤ a
  · have d1 : decide ((2 : Int) ≤ a) = true := by simpa using h1
    go_enter Try.func64, Try.ntmps64
    go_wp2_with fail
    go_ret
    exact ⟨nd_retB (by first | (simp [okAddr, h1]; done) | (symm; exact decide_eq_false (fun h => by have := h.1; omega)) | (simp [okAddr]; omega)), Below.refl _ _⟩
  · have d1 : decide ((2 : Int) ≤ a) = false := by simpa using h1
    go_enter Try.func64, Try.ntmps64
    go_wp2_with fail
    go_ret
    exact ⟨nd_retB (by first | (simp [okAddr]; done) | (symm; exact decide_eq_false (fun h => by have := h.1; omega)) | (simp [okAddr]; omega)), Below.refl _ _⟩

theorem pages_any (e : EntD) (h1 : 1 ≤ e.le) (h2 : e.le ≤ 65535) (w : World) :
    Calls Try.prog 84 #[.agg #[.int .i64 e.se, .int .i64 e.st, .int .i64 e.en, .int .i64 e.ad, .int .i64 e.le, .int .i64 e.cn, .int .i64 e.co, .int .u32 e.cr]] w fun e' w' => e' = .returned (.int .i64 ((e.le + 255) / 256)) ∧ Below w.heap.size w w' := by
  obtain ⟨v, hv⟩ := Int.eq_ofNat_of_zero_le (show 0 ≤ e.le by omega)
  rw [hv] at h1 h2 ⊢
  go_enter Try.func84, Try.ntmps84
  go_wp2_with fail
  go_ret
  refine ⟨congrArg (fun x => Ending.returned (Value.int .i64 x)) (?_ : ((v : Int) + 256 - 1) / 256 = _), (Below.refl _ _).alloc (Nat.le_refl _) _⟩
  omega

theorem less_any (a b : KeyD) (w : World) :
    Calls Try.prog 63 #[.agg #[.int .i64 a.se, .int .i64 a.st], .agg #[.int .i64 b.se, .int .i64 b.st]] w fun e w' => e = .returned (.bool (lessB a b)) ∧ Below w.heap.size w w' := by
  by_cases h : a.se = b.se
  · have hb : (a.se != b.se) = false := by simp [h]
    go_enter Try.func63, Try.ntmps63
    go_wp2_with fail
    go_ret
    exact ⟨nd_retB (by simp [lessB, h]), ((Below.refl _ _).alloc (Nat.le_refl _) _).alloc (by simp) _⟩
  · have hb : (a.se != b.se) = true := by simp [h]
    go_enter Try.func63, Try.ntmps63
    go_wp2_with fail
    go_ret
    exact ⟨nd_retB (by simp [lessB, h]), ((Below.refl _ _).alloc (Nat.le_refl _) _).alloc (by simp) _⟩

theorem rightKey_r (s t : Int) (r : Bool) (hr : r = decide (okKey s)) (w : World) :
    Calls Try.prog 62 #[.agg #[.int .i64 s, .int .i64 t]] w fun e w' => e = .returned (.bool r) ∧ Below w.heap.size w w' := by subst hr; exact rightKey_any s t w
theorem isAddr_r (a : Int) (r : Bool) (hr : r = decide (okAddr a)) (w : World) :
    Calls Try.prog 64 #[.int .i64 a] w fun e w' => e = .returned (.bool r) ∧ Below w.heap.size w w' := by subst hr; exact isAddr_any a w
theorem pages_r (e : EntD) (h1 : 1 ≤ e.le) (h2 : e.le ≤ 65535) (P : Int) (hP : P = (e.le + 255) / 256) (w : World) :
    Calls Try.prog 84 #[.agg #[.int .i64 e.se, .int .i64 e.st, .int .i64 e.en, .int .i64 e.ad, .int .i64 e.le, .int .i64 e.cn, .int .i64 e.co, .int .u32 e.cr]] w fun e' w' => e' = .returned (.int .i64 P) ∧ Below w.heap.size w w' := by subst hP; exact pages_any e h1 h2 w
set_option maxHeartbeats 4000000 in
set_option maxRecDepth 100000 in
theorem rightEntry_any (e : EntD) (r : Bool) (hr : decide (okEnt e) = r) (w : World) :
    Calls Try.prog 60 #[.agg #[.int .i64 e.se, .int .i64 e.st, .int .i64 e.en, .int .i64 e.ad, .int .i64 e.le, .int .i64 e.cn, .int .i64 e.co, .int .u32 e.cr]] w fun e' w' => e' = .returned (.bool r) ∧ Below w.heap.size w w' := by
  obtain ⟨W, eW⟩ : ∃ W, W = w.alloc (.cells #[.int .i64 e.se, .int .i64 e.st, .int .i64 e.en, .int .i64 e.ad, .int .i64 e.le, .int .i64 e.cn, .int .i64 e.co, .int .u32 e.cr] 77) := ⟨_, rfl⟩
  have hrow : W.heap[w.heap.size]? = some (.cells #[.int .i64 e.se, .int .i64 e.st, .int .i64 e.en, .int .i64 e.ad, .int .i64 e.le, .int .i64 e.cn, .int .i64 e.co, .int .u32 e.cr] 77 (0, 0)) := by rw [eW]; exact heap_alloc_new _ _
  have hbel : Below w.heap.size w W := by rw [eW]; exact (Below.refl _ _).alloc (Nat.le_refl _) _
  have EW := Lib.hid eW.symm
  have HB := Lib.hid hbel
  have G0 : ∀ y : SubW W.heap.size W, y.at_.cell? ⟨w.heap.size, 0, none⟩ = some (.int .i64 e.se) := fun y => nd_cell ((y.ok_.block _ (Array.getElem?_eq_some_iff.1 hrow).1).trans hrow) 0 _ rfl
  have G1 : ∀ y : SubW W.heap.size W, y.at_.cell? ⟨w.heap.size, 1, none⟩ = some (.int .i64 e.st) := fun y => nd_cell ((y.ok_.block _ (Array.getElem?_eq_some_iff.1 hrow).1).trans hrow) 1 _ rfl
  have G2 : ∀ y : SubW W.heap.size W, y.at_.cell? ⟨w.heap.size, 2, none⟩ = some (.int .i64 e.en) := fun y => nd_cell ((y.ok_.block _ (Array.getElem?_eq_some_iff.1 hrow).1).trans hrow) 2 _ rfl
  have G3 : ∀ y : SubW W.heap.size W, y.at_.cell? ⟨w.heap.size, 3, none⟩ = some (.int .i64 e.ad) := fun y => nd_cell ((y.ok_.block _ (Array.getElem?_eq_some_iff.1 hrow).1).trans hrow) 3 _ rfl
  have G4 : ∀ y : SubW W.heap.size W, y.at_.cell? ⟨w.heap.size, 4, none⟩ = some (.int .i64 e.le) := fun y => nd_cell ((y.ok_.block _ (Array.getElem?_eq_some_iff.1 hrow).1).trans hrow) 4 _ rfl
  have G5 : ∀ y : SubW W.heap.size W, y.at_.cell? ⟨w.heap.size, 5, none⟩ = some (.int .i64 e.cn) := fun y => nd_cell ((y.ok_.block _ (Array.getElem?_eq_some_iff.1 hrow).1).trans hrow) 5 _ rfl
  have G6 : ∀ y : SubW W.heap.size W, y.at_.cell? ⟨w.heap.size, 6, none⟩ = some (.int .i64 e.co) := fun y => nd_cell ((y.ok_.block _ (Array.getElem?_eq_some_iff.1 hrow).1).trans hrow) 6 _ rfl
  have G7 : ∀ y : SubW W.heap.size W, y.at_.cell? ⟨w.heap.size, 7, none⟩ = some (.int .u32 e.cr) := fun y => nd_cell ((y.ok_.block _ (Array.getElem?_eq_some_iff.1 hrow).1).trans hrow) 7 _ rfl
  obtain ⟨P, hP⟩ : ∃ P, P = (e.le + 255) / 256 := ⟨_, rfl⟩
  obtain ⟨rk, hrk⟩ : ∃ x, x = decide (okKey e.se) := ⟨_, rfl⟩
  obtain ⟨ia, hia⟩ : ∃ x, x = decide (okAddr e.ad) := ⟨_, rfl⟩
  have HRK := Lib.hid hrk
  have HIA := Lib.hid hia
  have HP := Lib.hid hP
  have HR := Lib.hid hr
  clear hrk hia hr hP hrow hbel eW
  by_cases h0 : rk = true
  · subst h0
    by_cases h1 : e.st ≤ e.en
    · have d1 : decide (e.st ≤ e.en) = true := by simpa using h1
      by_cases h2 : 1 ≤ e.le
      · have d2 : decide ((1 : Int) ≤ e.le) = true := by simpa using h2
        by_cases h3 : e.le ≤ 65535
        · have d3 : decide (e.le ≤ 65535) = true := by simpa using h3
          by_cases h4 : ia = true
          · subst h4
            have hwr : wrap64 (e.ad + P) = e.ad + P := by have hq : okAddr e.ad := of_decide_eq_true HIA.out.symm; have hp := HP.out; unfold okAddr at hq; exact IntWalk.wrap64_in _ ⟨by omega, by omega⟩
            by_cases h5 : e.ad + P ≤ 512
            · have d5 : decide (e.ad + P ≤ 512) = true := by simpa using h5
              by_cases h6 : 1 ≤ e.cn
              · have d6 : decide ((1 : Int) ≤ e.cn) = true := by simpa using h6
                by_cases h7 : e.cn ≤ 200
                · have d7 : decide (e.cn ≤ 200) = true := by simpa using h7
                  by_cases h8 : 0 ≤ e.co
                  · have d8 : decide ((0 : Int) ≤ e.co) = true := by simpa using h8
                    go_enter Try.func60, Try.ntmps60
                    go_upto_region 1 with fail
                    rw [EW.out]
                    refine region_below W.heap.size W (Below.refl _ _) (by kernel_rfl) (by kernel_rfl) ?_
                    repeat (go_big_quiet_step ((first | (go_at_call 62; exact calls_sub (Nat.le_refl _) (rightKey_r _ _ _ HRK.out _)) | (go_at_call 64; exact calls_sub (Nat.le_refl _) (isAddr_r _ _ HIA.out _)) | (go_at_call 84; exact calls_sub (Nat.le_refl _) (pages_r e h2 h3 P HP.out _)))))
                    refine wpQuiet_nil ?_
                    rintro w' ⟨y, rfl⟩
                    have HY := Lib.hid (HB.out.trans (y.ok_.mono HB.out.size))
                    clear G0 G1 G2 G3 G4 G5 G6 G7
                    go_wp2_with fail
                    go_ret
                    refine ⟨nd_retB ?_, HY.out⟩
                    rw [← HR.out, Bool.eq_iff_iff, decide_eq_true_eq, decide_eq_true_eq]
                    unfold okEnt
                    have e0 := HRK.out; have e4 := HIA.out; have eP := HP.out
                    replace e0 := of_decide_eq_true e0.symm; replace e4 := of_decide_eq_true e4.symm; subst eP
                    exact ⟨fun h => ⟨e0, h1, h2, h3, e4, h5, h6, h7, h8, h⟩, fun h => h.2.2.2.2.2.2.2.2.2⟩
                  · have d8 : decide ((0 : Int) ≤ e.co) = false := by simpa using h8
                    go_enter Try.func60, Try.ntmps60
                    go_upto_region 1 with fail
                    rw [EW.out]
                    refine region_below W.heap.size W (Below.refl _ _) (by kernel_rfl) (by kernel_rfl) ?_
                    repeat (go_big_quiet_step ((first | (go_at_call 62; exact calls_sub (Nat.le_refl _) (rightKey_r _ _ _ HRK.out _)) | (go_at_call 64; exact calls_sub (Nat.le_refl _) (isAddr_r _ _ HIA.out _)) | (go_at_call 84; exact calls_sub (Nat.le_refl _) (pages_r e h2 h3 P HP.out _)))))
                    refine wpQuiet_nil ?_
                    rintro w' ⟨y, rfl⟩
                    have HY := Lib.hid (HB.out.trans (y.ok_.mono HB.out.size))
                    clear G0 G1 G2 G3 G4 G5 G6 G7
                    go_wp2_with fail
                    go_ret
                    refine ⟨nd_retB ?_, HY.out⟩
                    rw [← HR.out]; symm; rw [decide_eq_false_iff_not]; unfold okEnt; intro hx
                    have h' := hx.2.2.2.2.2.2.2.2.1; omega
                · have d7 : decide (e.cn ≤ 200) = false := by simpa using h7
                  go_enter Try.func60, Try.ntmps60
                  go_upto_region 1 with fail
                  rw [EW.out]
                  refine region_below W.heap.size W (Below.refl _ _) (by kernel_rfl) (by kernel_rfl) ?_
                  repeat (go_big_quiet_step ((first | (go_at_call 62; exact calls_sub (Nat.le_refl _) (rightKey_r _ _ _ HRK.out _)) | (go_at_call 64; exact calls_sub (Nat.le_refl _) (isAddr_r _ _ HIA.out _)) | (go_at_call 84; exact calls_sub (Nat.le_refl _) (pages_r e h2 h3 P HP.out _)))))
                  refine wpQuiet_nil ?_
                  rintro w' ⟨y, rfl⟩
                  have HY := Lib.hid (HB.out.trans (y.ok_.mono HB.out.size))
                  clear G0 G1 G2 G3 G4 G5 G6 G7
                  go_wp2_with fail
                  go_ret
                  refine ⟨nd_retB ?_, HY.out⟩
                  rw [← HR.out]; symm; rw [decide_eq_false_iff_not]; unfold okEnt; intro hx
                  have h' := hx.2.2.2.2.2.2.2.1; omega
              · have d6 : decide ((1 : Int) ≤ e.cn) = false := by simpa using h6
                go_enter Try.func60, Try.ntmps60
                go_upto_region 1 with fail
                rw [EW.out]
                refine region_below W.heap.size W (Below.refl _ _) (by kernel_rfl) (by kernel_rfl) ?_
                repeat (go_big_quiet_step ((first | (go_at_call 62; exact calls_sub (Nat.le_refl _) (rightKey_r _ _ _ HRK.out _)) | (go_at_call 64; exact calls_sub (Nat.le_refl _) (isAddr_r _ _ HIA.out _)) | (go_at_call 84; exact calls_sub (Nat.le_refl _) (pages_r e h2 h3 P HP.out _)))))
                refine wpQuiet_nil ?_
                rintro w' ⟨y, rfl⟩
                have HY := Lib.hid (HB.out.trans (y.ok_.mono HB.out.size))
                clear G0 G1 G2 G3 G4 G5 G6 G7
                go_wp2_with fail
                go_ret
                refine ⟨nd_retB ?_, HY.out⟩
                rw [← HR.out]; symm; rw [decide_eq_false_iff_not]; unfold okEnt; intro hx
                have h' := hx.2.2.2.2.2.2.1; omega
            · have d5 : decide (e.ad + P ≤ 512) = false := by simpa using h5
              go_enter Try.func60, Try.ntmps60
              go_upto_region 1 with fail
              rw [EW.out]
              refine region_below W.heap.size W (Below.refl _ _) (by kernel_rfl) (by kernel_rfl) ?_
              repeat (go_big_quiet_step ((first | (go_at_call 62; exact calls_sub (Nat.le_refl _) (rightKey_r _ _ _ HRK.out _)) | (go_at_call 64; exact calls_sub (Nat.le_refl _) (isAddr_r _ _ HIA.out _)) | (go_at_call 84; exact calls_sub (Nat.le_refl _) (pages_r e h2 h3 P HP.out _)))))
              refine wpQuiet_nil ?_
              rintro w' ⟨y, rfl⟩
              have HY := Lib.hid (HB.out.trans (y.ok_.mono HB.out.size))
              clear G0 G1 G2 G3 G4 G5 G6 G7
              go_wp2_with fail
              go_ret
              refine ⟨nd_retB ?_, HY.out⟩
              rw [← HR.out]; symm; rw [decide_eq_false_iff_not]; unfold okEnt; intro hx
              have eP := HP.out; have h' := hx.2.2.2.2.2.1; omega
          · have d4 : ia = false := by simpa using h4
            subst d4
            clear h4
            go_enter Try.func60, Try.ntmps60
            go_upto_region 1 with fail
            rw [EW.out]
            refine region_below W.heap.size W (Below.refl _ _) (by kernel_rfl) (by kernel_rfl) ?_
            repeat (go_big_quiet_step ((first | (go_at_call 62; exact calls_sub (Nat.le_refl _) (rightKey_r _ _ _ HRK.out _)) | (go_at_call 64; exact calls_sub (Nat.le_refl _) (isAddr_r _ _ HIA.out _)) | (go_at_call 84; exact calls_sub (Nat.le_refl _) (pages_r e h2 h3 P HP.out _)))))
            refine wpQuiet_nil ?_
            rintro w' ⟨y, rfl⟩
            have HY := Lib.hid (HB.out.trans (y.ok_.mono HB.out.size))
            clear G0 G1 G2 G3 G4 G5 G6 G7
            go_wp2_with fail
            go_ret
            refine ⟨nd_retB ?_, HY.out⟩
            rw [← HR.out]; symm; rw [decide_eq_false_iff_not]; unfold okEnt; intro hx
            have e4 := HIA.out; rw [decide_eq_true hx.2.2.2.2.1] at e4; cases e4
        · have d3 : decide (e.le ≤ 65535) = false := by simpa using h3
          go_enter Try.func60, Try.ntmps60
          go_upto_region 1 with fail
          rw [EW.out]
          refine region_below W.heap.size W (Below.refl _ _) (by kernel_rfl) (by kernel_rfl) ?_
          repeat (go_big_quiet_step ((first | (go_at_call 62; exact calls_sub (Nat.le_refl _) (rightKey_r _ _ _ HRK.out _)) | (go_at_call 64; exact calls_sub (Nat.le_refl _) (isAddr_r _ _ HIA.out _)) | (go_at_call 84; exact calls_sub (Nat.le_refl _) (pages_r e h2 h3 P HP.out _)))))
          refine wpQuiet_nil ?_
          rintro w' ⟨y, rfl⟩
          have HY := Lib.hid (HB.out.trans (y.ok_.mono HB.out.size))
          clear G0 G1 G2 G3 G4 G5 G6 G7
          go_wp2_with fail
          go_ret
          refine ⟨nd_retB ?_, HY.out⟩
          rw [← HR.out]; symm; rw [decide_eq_false_iff_not]; unfold okEnt; intro hx
          have h' := hx.2.2.2.1; omega
      · have d2 : decide ((1 : Int) ≤ e.le) = false := by simpa using h2
        go_enter Try.func60, Try.ntmps60
        go_upto_region 1 with fail
        rw [EW.out]
        refine region_below W.heap.size W (Below.refl _ _) (by kernel_rfl) (by kernel_rfl) ?_
        repeat (go_big_quiet_step ((first | (go_at_call 62; exact calls_sub (Nat.le_refl _) (rightKey_r _ _ _ HRK.out _)) | (go_at_call 64; exact calls_sub (Nat.le_refl _) (isAddr_r _ _ HIA.out _)) | (go_at_call 84; exact calls_sub (Nat.le_refl _) (pages_r e h2 h3 P HP.out _)))))
        refine wpQuiet_nil ?_
        rintro w' ⟨y, rfl⟩
        have HY := Lib.hid (HB.out.trans (y.ok_.mono HB.out.size))
        clear G0 G1 G2 G3 G4 G5 G6 G7
        go_wp2_with fail
        go_ret
        refine ⟨nd_retB ?_, HY.out⟩
        rw [← HR.out]; symm; rw [decide_eq_false_iff_not]; unfold okEnt; intro hx
        have h' := hx.2.2.1; omega
    · have d1 : decide (e.st ≤ e.en) = false := by simpa using h1
      go_enter Try.func60, Try.ntmps60
      go_upto_region 1 with fail
      rw [EW.out]
      refine region_below W.heap.size W (Below.refl _ _) (by kernel_rfl) (by kernel_rfl) ?_
      repeat (go_big_quiet_step ((first | (go_at_call 62; exact calls_sub (Nat.le_refl _) (rightKey_r _ _ _ HRK.out _)) | (go_at_call 64; exact calls_sub (Nat.le_refl _) (isAddr_r _ _ HIA.out _)) | (go_at_call 84; exact calls_sub (Nat.le_refl _) (pages_r e h2 h3 P HP.out _)))))
      refine wpQuiet_nil ?_
      rintro w' ⟨y, rfl⟩
      have HY := Lib.hid (HB.out.trans (y.ok_.mono HB.out.size))
      clear G0 G1 G2 G3 G4 G5 G6 G7
      go_wp2_with fail
      go_ret
      refine ⟨nd_retB ?_, HY.out⟩
      rw [← HR.out]; symm; rw [decide_eq_false_iff_not]; unfold okEnt; intro hx
      have h' := hx.2.1; omega
  · have d0 : rk = false := by simpa using h0
    subst d0
    clear h0
    go_enter Try.func60, Try.ntmps60
    go_upto_region 1 with fail
    rw [EW.out]
    refine region_below W.heap.size W (Below.refl _ _) (by kernel_rfl) (by kernel_rfl) ?_
    repeat (go_big_quiet_step ((first | (go_at_call 62; exact calls_sub (Nat.le_refl _) (rightKey_r _ _ _ HRK.out _)) | (go_at_call 64; exact calls_sub (Nat.le_refl _) (isAddr_r _ _ HIA.out _)) | (go_at_call 84; exact calls_sub (Nat.le_refl _) (pages_r e h2 h3 P HP.out _)))))
    refine wpQuiet_nil ?_
    rintro w' ⟨y, rfl⟩
    have HY := Lib.hid (HB.out.trans (y.ok_.mono HB.out.size))
    clear G0 G1 G2 G3 G4 G5 G6 G7
    go_wp2_with fail
    go_ret
    refine ⟨nd_retB ?_, HY.out⟩
    rw [← HR.out]; symm; rw [decide_eq_false_iff_not]; unfold okEnt; intro hx
    have e0 := HRK.out; rw [decide_eq_true hx.1] at e0; cases e0
end Go.Proofs.Ytgkddhncfaeidaa
