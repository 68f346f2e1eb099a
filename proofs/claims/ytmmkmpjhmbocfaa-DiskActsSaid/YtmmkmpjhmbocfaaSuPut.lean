/- Package super's small calls: their contracts. -/
import Derived.Test.YtmmkmpjhmbocfaaPut
import Derived.Test.YtmmkmpjhmbocfaaPagePut
import Derived.Test.YtmmkmpjhmbocfaaSuM
import Derived.Deep.MidRow
namespace Go.Proofs.Ytmmkmpjhmbocfaa
open Go.RowKit CrcM PageM SupM
set_option linter.unusedVariables false

theorem putHigh_su (g o base cap : Nat) (pre mid post : List UInt8) (c n : Nat) (hn : n < 18446744073709551616) (w : World) (ho : o = pre.length) (hown : OwnB w base g cap 5 (pre ++ mid ++ post)) (hl : mid.length ≤ 8) (hp : pre.length ≤ 100000) :
    Calls Try.prog 65 #[.slice (some ⟨g, o, none⟩) mid.length c, .int .u64 n] w fun e w' => e = .returned (.tuple #[]) ∧ OwnB w' base g cap 5 (pre ++ be n mid.length ++ post) ∧ w.grownBy w' (some g) := by
  subst ho
  go_enter Try.func65, Try.ntmps65
  go_wp2_with fail
  go_loopw [1, 4] (fun v i wr => ∃ t : Nat, t ≤ mid.length ∧ i = .int .i64 ((t : Int) - 1) ∧ v = .int .u64 ((n / 256 ^ (mid.length - t) : Nat) : Int) ∧ Hid (OwnB wr base g cap 5 (pre ++ mid.take t ++ be n (mid.length - t) ++ post)) ∧ Hid (w.grownBy wr (some g))) (fun _ i _ => (intOf i + 1).toNat)
  case atStart => exact ⟨mid.length, Nat.le_refl _, rfl, by simp, by simpa [be, Hid] using hown, World.grownBy.refl w _⟩
  case round =>
    obtain ⟨t, ht, rfl, rfl, hor, hgr⟩ := hrel
    cases t with
    | succ s =>
      have e1 : ((s + 1 : Nat) : Int) - 1 = (s : Int) := by omega
      rw [e1]
      have hq : pre.length + s < (pre ++ mid.take (s + 1) ++ be n (mid.length - (s + 1)) ++ post).length := by simp [length_be]; omega
      have hcell := hor.out.cellAt (pre.length + s) hq
      have hfr := hor.out.frozenAt (pre.length + s)
      obtain ⟨m, hm⟩ : ∃ m : Nat, m = n / 256 ^ (mid.length - (s + 1)) := ⟨_, rfl⟩
      rw [← hm]
      have hm64 : m < 18446744073709551616 := by rw [hm]; exact Nat.lt_of_le_of_lt (Nat.div_le_self _ _) hn
      have HM := Lib.hid hm
      clear hm e1
      go_wp2_with fail
      go_roundw
      case rel =>
        have hst := hor.out.stored (pre.length + s) hq (UInt8.ofNat m)
        rw [set_mid pre mid post s (by omega)] at hst
        have e2 : mid.length - s = (mid.length - (s + 1)) + 1 := by omega
        have e3 : UInt8.ofNat m :: be n (mid.length - (s + 1)) = be n (mid.length - s) := by rw [e2, be_cons, ← HM.out]
        rw [e3, UInt8.toNat_ofNat'] at hst
        refine ⟨s, by omega, rfl, ?_, ?_, ?_⟩
        · rw [e2, Nat.pow_succ, ← Nat.div_div_eq_div_mul, ← HM.out]
          rfl
        · exact hst
        · exact hgr.out.setCell_row _ _
      case measure => simp [intOf]
    | zero =>
      go_wp2_with fail
      refine bodyPost_end (results_none rfl _ _ _) rfl ⟨rfl, ?_, hgr.out⟩
      simpa using hor.out

theorem takeHigh_su (A : Option Addr) (cap : Nat) (xs : List UInt8) (w : World) (hx : BytesAt w A xs) (hl : xs.length ≤ 8) :
    Calls Try.prog 66 #[.slice A xs.length cap] w fun e w' => e = .returned (.int .u64 (val xs)) ∧ w = w' := by
  go_enter Try.func66, Try.ntmps66
  go_wp2_with fail
  go_loop [3, 8] (fun v i => ∃ k : Nat, k ≤ xs.length ∧ i = .int .i64 k ∧ v = .int .u64 (val (xs.take k))) (fun _ i => xs.length - (intOf i).toNat)
  case atStart => exact ⟨0, by omega, rfl, by simp [val]⟩
  case round =>
    obtain ⟨k, hk, rfl, rfl⟩ := hrel
    by_cases hlt : k < xs.length
    · obtain ⟨b, off, rfl, hc⟩ := hx (by intro h; subst h; simp at hlt)
      have hck := hc k hlt
      clear hc
      have hv : val (xs.take k) < 72057594037927936 := by
        have := val_lt (xs.take k)
        have h2 : 256 ^ (xs.take k).length ≤ 256 ^ 7 := Nat.pow_le_pow_right (by omega) (by simp; omega)
        omega
      go_wp2_with fail
      go_round
      case rel =>
        refine ⟨k + 1, by omega, by go_num, ?_⟩
        have hw : IntKind.u64.wrap (xs[k].toNat : Int) = (xs[k].toNat : Int) := by have := xs[k].toNat_lt; rw [IntKind.wrap_u64]; omega
        rw [hw, or_u64 _ _ hv, List.take_succ_eq_append_getElem hlt, val_snoc]
      case measure => simp [intOf]; omega
    · obtain rfl : k = xs.length := by omega
      go_wp2_with fail
      go_ret
      exact ⟨by simp, rfl⟩

theorem retB {a b : Bool} (h : a = b) : Ending.returned (.bool a) = Ending.returned (.bool b) := by rw [h]

theorem isAddr_su (a p : Int) (w : World) : Calls Try.prog 76 #[.int .i64 a, .int .i64 p] w fun e w' => e = .returned (.bool (decide (2 ≤ a ∧ a < p))) ∧ w = w' := by
  by_cases h1 : 2 ≤ a
  · have d1 : decide ((2 : Int) ≤ a) = true := by simpa using h1
    go_enter Try.func76, Try.ntmps76
    go_wp2_with fail
    all_goals go_ret
    all_goals exact ⟨retB (by simp [h1]), rfl⟩
  · have d1 : decide ((2 : Int) ≤ a) = false := by simpa using h1
    go_enter Try.func76, Try.ntmps76
    go_wp2_with fail
    all_goals go_ret
    all_goals exact ⟨retB (by simp [h1]), rfl⟩

theorem place_su (g : Nat) (w : World) : Calls Try.prog 67 #[.int .u64 (g : Int)] w fun e w' => e = .returned (.int .i64 ((g % 2 : Nat) : Int)) ∧ w = w' := by
  go_enter Try.func67, Try.ntmps67
  go_wp2_with fail
  all_goals go_ret
  refine ⟨congrArg (fun z => Ending.returned (Value.int .i64 z)) (?_ : _ = ((g % 2 : Nat) : Int)), rfl⟩
  simp

theorem rightRoot_su (a h p : Int) (w : World) : Calls Try.prog 75 #[.agg #[.int .i64 a, .int .i64 h], .int .i64 p] w fun e w' => e = .returned (.bool (decide (rootOk a h p))) ∧ Below w.heap.size w w' := by
  have hbl : Below w.heap.size w (w.alloc (.cells #[.int .i64 a, .int .i64 h] 80)) := (Below.refl _ _).alloc (Nat.le_refl _) _
  by_cases h0 : h = 0
  · subst h0
    have d0 : (a == 0) = decide (a = 0) := rfl
    clear d0
    go_enter Try.func75, Try.ntmps75
    go_wp2_with fail
    all_goals go_ret
    all_goals exact ⟨retB (by first | exact decide_eq_decide.2 (by unfold rootOk; omega) | (rw [Bool.eq_iff_iff]; simp only [Bool.and_eq_true, decide_eq_true_eq]; unfold rootOk; omega) | exact (decide_eq_false (by unfold rootOk; omega)).symm | exact (decide_eq_true (by unfold rootOk; omega)).symm), hbl⟩
  · have d0 : (h == 0) = false := by simpa using h0
    by_cases h1 : 0 < h
    · have d1 : decide ((0 : Int) < h) = true := by simpa using h1
      by_cases h2 : h ≤ 5
      · have d2 : decide (h ≤ 5) = true := by simpa using h2
        go_enter Try.func75, Try.ntmps75
        go_wp2_with (go_at_call 76; (refine (isAddr_su a p _).mono ?_); rintro e w1 ⟨rfl, rfl⟩)
        all_goals go_ret
        all_goals exact ⟨retB (by first | exact decide_eq_decide.2 (by unfold rootOk; omega) | (rw [Bool.eq_iff_iff]; simp only [Bool.and_eq_true, decide_eq_true_eq]; unfold rootOk; omega) | exact (decide_eq_false (by unfold rootOk; omega)).symm | exact (decide_eq_true (by unfold rootOk; omega)).symm), hbl⟩
      · have d2 : decide (h ≤ 5) = false := by simpa using h2
        go_enter Try.func75, Try.ntmps75
        go_wp2_with fail
        all_goals go_ret
        all_goals exact ⟨retB (by first | exact decide_eq_decide.2 (by unfold rootOk; omega) | (rw [Bool.eq_iff_iff]; simp only [Bool.and_eq_true, decide_eq_true_eq]; unfold rootOk; omega) | exact (decide_eq_false (by unfold rootOk; omega)).symm | exact (decide_eq_true (by unfold rootOk; omega)).symm), hbl⟩
    · have d1 : decide ((0 : Int) < h) = false := by simpa using h1
      go_enter Try.func75, Try.ntmps75
      go_wp2_with fail
      all_goals go_ret
      all_goals exact ⟨retB (by first | exact decide_eq_decide.2 (by unfold rootOk; omega) | (rw [Bool.eq_iff_iff]; simp only [Bool.and_eq_true, decide_eq_true_eq]; unfold rootOk; omega) | exact (decide_eq_false (by unfold rootOk; omega)).symm | exact (decide_eq_true (by unfold rootOk; omega)).symm), hbl⟩

/-- The cells of a superblock. -/
def supC (s : Sup) : Array Value := #[.int .u64 (s.gen : Int), .int .i64 s.addr, .int .i64 s.height, .int .i64 s.bitmap, .int .i64 s.pages]

set_option maxHeartbeats 2000000 in
set_option maxRecDepth 100000 in
theorem right_su (s : Sup) (w : World) : Calls Try.prog 64 #[.agg (supC s)] w fun e w' => e = .returned (.bool (decide (okS s))) ∧ Below w.heap.size w w' := by
  obtain ⟨g, a, h, b, p⟩ := s
  unfold supC
  dsimp only
  have hbl : Below w.heap.size w (w.alloc (.cells #[.int .u64 (g : Int), .int .i64 a, .int .i64 h, .int .i64 b, .int .i64 p] 82)) := (Below.refl _ _).alloc (Nat.le_refl _) _
  have hr : (w.alloc (.cells #[.int .u64 (g : Int), .int .i64 a, .int .i64 h, .int .i64 b, .int .i64 p] 82)).rangeAt w.heap.size 1 [.int .i64 a, .int .i64 h] := by
    intro j x hx
    match j, hx with
    | 0, hx => simp at hx; subst hx; exact (cell_of_row _ _ 1 _ _ _ (heap_alloc_new _ _)).trans rfl
    | 1, hx => simp at hx; subst hx; exact (cell_of_row _ _ 2 _ _ _ (heap_alloc_new _ _)).trans rfl
  have HR := Lib.hid hr
  clear hr
  obtain ⟨rt, ert⟩ : ∃ rt, rt = decide (rootOk a h p) := ⟨_, rfl⟩
  obtain ⟨ad, ead⟩ : ∃ ad, ad = decide (2 ≤ b ∧ b < p) := ⟨_, rfl⟩
  have ERT := Lib.hid ert
  have EAD := Lib.hid ead
  have hfin : decide (okS ⟨g, a, h, b, p⟩) = (decide (1 ≤ g) && decide (8 ≤ p) && decide (p ≤ 512) && rt && ad && decide (b ≠ a)) := by
    rw [ert, ead, Bool.eq_iff_iff]
    simp only [Bool.and_eq_true, decide_eq_true_eq]
    unfold okS
    exact ⟨fun ⟨e1, e2, e3, e4, e5, e6, e7⟩ => ⟨⟨⟨⟨⟨e1, e2⟩, e3⟩, e4⟩, e5, e6⟩, e7⟩, fun ⟨⟨⟨⟨⟨e1, e2⟩, e3⟩, e4⟩, e5, e6⟩, e7⟩ => ⟨e1, e2, e3, e4, e5, e6, e7⟩⟩
  rw [hfin]
  clear ert ead hfin
  by_cases h1 : 1 ≤ g
  · have d1 : decide ((1 : Int) ≤ (g : Int)) = true := by simp; omega
    by_cases h2 : 8 ≤ p
    · have d2 : decide ((8 : Int) ≤ p) = true := by simpa using h2
      by_cases h3 : p ≤ 512
      · have d3 : decide (p ≤ 512) = true := by simpa using h3
        cases rt <;> cases ad
        all_goals
          go_enter Try.func64, Try.ntmps64
          go_wp2_with (first
            | (refine wpList_load_mid rfl 80 _ rfl w.heap.size 1 rfl _ _ HR.out Try.underlying80 rfl (by kernel_rfl) ?_)
            | (go_at_call 75; (refine (rightRoot_su a h p _).mono ?_); rw [← ERT.out]; rintro e w1 ⟨rfl, hb1⟩; have hk1 := (hb1.block w.heap.size (by simp)).trans (heap_alloc_new w _); have c1 := (cell_of_row _ _ 1 _ _ _ hk1).trans rfl; have c2 := (cell_of_row _ _ 2 _ _ _ hk1).trans rfl; have c3 := (cell_of_row _ _ 3 _ _ _ hk1).trans rfl; have c4 := (cell_of_row _ _ 4 _ _ _ hk1).trans rfl)
            | (go_at_call 76; (refine (isAddr_su b p _).mono ?_); rw [← EAD.out]; rintro e w2 ⟨rfl, rfl⟩))
          all_goals go_ret
          all_goals exact ⟨retB (by first | (simp [h1, h2, h3]; done) | (simp [h1, h2, h3]; rfl)), hbl.trans (hb1.mono (by simp))⟩
      · have d3 : decide (p ≤ 512) = false := by simpa using h3
        go_enter Try.func64, Try.ntmps64
        go_wp2_with fail
        all_goals go_ret
        all_goals exact ⟨retB (by simp [h3]), hbl⟩
    · have d2 : decide ((8 : Int) ≤ p) = false := by simpa using h2
      go_enter Try.func64, Try.ntmps64
      go_wp2_with fail
      all_goals go_ret
      all_goals exact ⟨retB (by simp [h2]), hbl⟩
  · have d1 : decide ((1 : Int) ≤ (g : Int)) = false := by simp; omega
    go_enter Try.func64, Try.ntmps64
    go_wp2_with fail
    all_goals go_ret
    all_goals exact ⟨retB (by simp [h1]), hbl⟩
end Go.Proofs.Ytmmkmpjhmbocfaa
