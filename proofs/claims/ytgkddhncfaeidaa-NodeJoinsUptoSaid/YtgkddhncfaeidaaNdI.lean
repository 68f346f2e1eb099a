/- The cursor's entry over whatever bytes. -/
import Derived.Test.YtgkddhncfaeidaaNdH
namespace Go.Proofs.Ytgkddhncfaeidaa
open Go.ChangeShapes Go.WideShapes Go.ChangeAt Go.RowKit CrcM PageM
set_option linter.unusedVariables false

/-- Four bytes as a number. -/
def u32n (n : Nat) : Int := IntKind.u32.wrap (n : Int)
def entP (b : List UInt8) : EntD := ⟨(keyP b).se, (keyP b).st, s64 (val ((b.drop 12).take 8)), s64 (val ((b.drop 20).take 2)), s64 (val ((b.drop 22).take 2)), s64 (val ((b.drop 24).take 1)), s64 (val ((b.drop 25).take 1)), u32n (val ((b.drop 26).take 4))⟩

theorem high_at (xs : List UInt8) (r o s : Nat) (n : Nat) (hn : val ((xs.drop o).take s) = n) (h1 : 1 ≤ s) (h8 : s ≤ 8) (hl : o + s ≤ xs.length) (z : Int) (hz : z = (s : Int)) (o2 : Nat) (ho : o2 = o + s) (W : World) (hW : CurAt W r (xs.drop o)) :
    Calls Try.prog 46 #[.pointer (some ⟨r, 0, none⟩), .int .i64 z] W fun e w' => e = .returned (.int .u64 n) ∧ CurAt w' r (xs.drop o2) ∧ W.grownBy w' (some r) := by
  subst ho
  refine (high_cur W r (xs.drop o) hW z s hz h1 (by rw [List.length_drop]; omega) h8).mono (fun e w' ⟨a, b, c, _⟩ => ⟨hn ▸ a, ?_, c⟩)
  rw [List.drop_drop] at b
  exact b

set_option maxRecDepth 100000 in
set_option maxHeartbeats 4000000 in
theorem entry_cur (w : World) (r : Nat) (xs : List UInt8) (h : CurAt w r xs) (hl : 30 ≤ xs.length) :
    Calls Try.prog 44 #[.pointer (some ⟨r, 0, none⟩)] w fun e' w' => e' = .returned (.agg #[.int .i64 (entP xs).se, .int .i64 (entP xs).st, .int .i64 (entP xs).en, .int .i64 (entP xs).ad, .int .i64 (entP xs).le, .int .i64 (entP xs).cn, .int .i64 (entP xs).co, .int .u32 (entP xs).cr]) ∧ CurAt w' r (xs.drop 30) ∧ w.grownBy w' (some r) := by
  have hlt := h.lt
  obtain ⟨W, eW⟩ : ∃ W, W = w.alloc (.cells #[.int .i64 0, .int .i64 0, .int .i64 0, .int .i64 0, .int .i64 0, .int .i64 0, .int .i64 0, .int .u32 0] 77) := ⟨_, rfl⟩
  have hra : CurAt W r xs := by rw [eW]; exact h.below ((Below.refl w.heap.size w).alloc (Nat.le_refl _) _)
  have hkr : W.heap[w.heap.size]? = some (.cells #[.int .i64 0, .int .i64 0, .int .i64 0, .int .i64 0, .int .i64 0, .int .i64 0, .int .i64 0, .int .u32 0] 77 (0, 0)) := by rw [eW]; exact heap_alloc_new w _
  have hgr : w.grownBy W (some r) := by rw [eW]; exact grown_alloc w _ _
  have EW := Lib.hid eW.symm
  have HRA := Lib.hid hra
  have HKR := Lib.hid hkr
  have HG := Lib.hid hgr
  obtain ⟨kk, hkk⟩ : ∃ k, keyP xs = k := ⟨_, rfl⟩
  obtain ⟨n_en, h_en⟩ : ∃ n, val ((xs.drop 12).take 8) = n := ⟨_, rfl⟩
  obtain ⟨z_en, y_en⟩ : ∃ z, wrap64 (n_en : Int) = z := ⟨_, rfl⟩
  obtain ⟨n_ad, h_ad⟩ : ∃ n, val ((xs.drop 20).take 2) = n := ⟨_, rfl⟩
  obtain ⟨z_ad, y_ad⟩ : ∃ z, wrap64 (n_ad : Int) = z := ⟨_, rfl⟩
  obtain ⟨n_le, h_le⟩ : ∃ n, val ((xs.drop 22).take 2) = n := ⟨_, rfl⟩
  obtain ⟨z_le, y_le⟩ : ∃ z, wrap64 (n_le : Int) = z := ⟨_, rfl⟩
  obtain ⟨n_cn, h_cn⟩ : ∃ n, val ((xs.drop 24).take 1) = n := ⟨_, rfl⟩
  obtain ⟨z_cn, y_cn⟩ : ∃ z, wrap64 (n_cn : Int) = z := ⟨_, rfl⟩
  obtain ⟨n_co, h_co⟩ : ∃ n, val ((xs.drop 25).take 1) = n := ⟨_, rfl⟩
  obtain ⟨z_co, y_co⟩ : ∃ z, wrap64 (n_co : Int) = z := ⟨_, rfl⟩
  obtain ⟨n_cr, h_cr⟩ : ∃ n, val ((xs.drop 26).take 4) = n := ⟨_, rfl⟩
  obtain ⟨z_cr, y_cr⟩ : ∃ z, IntKind.u32.wrap (n_cr : Int) = z := ⟨_, rfl⟩
  have hk : entP xs = ⟨kk.se, kk.st, z_en, z_ad, z_le, z_cn, z_co, z_cr⟩ := by unfold entP s64 u32n; rw [hkk, h_en, h_ad, h_le, h_cn, h_co, h_cr, y_en, y_ad, y_le, y_cn, y_co, y_cr]
  rw [hk]
  dsimp only
  have HK0 : Hid (∀ W, CurAt W r xs → Calls Try.prog 45 #[.pointer (some ⟨r, 0, none⟩)] W fun e w' => e = .returned (.agg #[.int .i64 kk.se, .int .i64 kk.st]) ∧ CurAt w' r (xs.drop 12) ∧ W.grownBy w' (some r)) := Lib.hid (fun W hW => hkk ▸ key_cur W r xs hW (by omega))
  have H_en : Hid (∀ W, CurAt W r (xs.drop 12) → Calls Try.prog 46 #[.pointer (some ⟨r, 0, none⟩), .int .i64 8] W fun e w' => e = .returned (.int .u64 n_en) ∧ CurAt w' r (xs.drop 20) ∧ W.grownBy w' (some r)) := Lib.hid (fun W hW => high_at xs r 12 8 n_en h_en (by decide) (by decide) (by omega) 8 (by decide) 20 rfl W hW)
  have H_ad : Hid (∀ W, CurAt W r (xs.drop 20) → Calls Try.prog 46 #[.pointer (some ⟨r, 0, none⟩), .int .i64 2] W fun e w' => e = .returned (.int .u64 n_ad) ∧ CurAt w' r (xs.drop 22) ∧ W.grownBy w' (some r)) := Lib.hid (fun W hW => high_at xs r 20 2 n_ad h_ad (by decide) (by decide) (by omega) 2 (by decide) 22 rfl W hW)
  have H_le : Hid (∀ W, CurAt W r (xs.drop 22) → Calls Try.prog 46 #[.pointer (some ⟨r, 0, none⟩), .int .i64 2] W fun e w' => e = .returned (.int .u64 n_le) ∧ CurAt w' r (xs.drop 24) ∧ W.grownBy w' (some r)) := Lib.hid (fun W hW => high_at xs r 22 2 n_le h_le (by decide) (by decide) (by omega) 2 (by decide) 24 rfl W hW)
  have H_cn : Hid (∀ W, CurAt W r (xs.drop 24) → Calls Try.prog 46 #[.pointer (some ⟨r, 0, none⟩), .int .i64 1] W fun e w' => e = .returned (.int .u64 n_cn) ∧ CurAt w' r (xs.drop 25) ∧ W.grownBy w' (some r)) := Lib.hid (fun W hW => high_at xs r 24 1 n_cn h_cn (by decide) (by decide) (by omega) 1 (by decide) 25 rfl W hW)
  have H_co : Hid (∀ W, CurAt W r (xs.drop 25) → Calls Try.prog 46 #[.pointer (some ⟨r, 0, none⟩), .int .i64 1] W fun e w' => e = .returned (.int .u64 n_co) ∧ CurAt w' r (xs.drop 26) ∧ W.grownBy w' (some r)) := Lib.hid (fun W hW => high_at xs r 25 1 n_co h_co (by decide) (by decide) (by omega) 1 (by decide) 26 rfl W hW)
  have H_cr : Hid (∀ W, CurAt W r (xs.drop 26) → Calls Try.prog 46 #[.pointer (some ⟨r, 0, none⟩), .int .i64 4] W fun e w' => e = .returned (.int .u64 n_cr) ∧ CurAt w' r (xs.drop 30) ∧ W.grownBy w' (some r)) := Lib.hid (fun W hW => high_at xs r 26 4 n_cr h_cr (by decide) (by decide) (by omega) 4 (by decide) 30 rfl W hW)
  clear h hra hkr hgr eW hkk hk hl h_en h_ad h_le h_cn h_co h_cr
  have y_cr2 : (n_cr : Int) % 4294967296 = z_cr := by rw [← y_cr, IntKind.wrap_u32]
  go_enter Try.func44, Try.ntmps44
  go_upto_region 1 with fail
  rw [EW.out]
  go_wp2_with (first
    | (go_at_call 45; (with_reducible refine (HK0.out _ HRA.out).mono ?_); rintro e w1 ⟨rfl, hc1, hg1⟩; have HC1 := Lib.hid hc1; have HG1 := Lib.hid (HG.out.trans' hg1); have HR1 := Lib.hid ((hg1.block w.heap.size (Array.getElem?_eq_some_iff.1 HKR.out).1 (by intro e; injection e; omega)).trans HKR.out); clear hc1 hg1)
    | (go_at_call 46; (with_reducible refine (H_en.out _ HC1.out).mono ?_); rintro e w2 ⟨rfl, hc2, hg2⟩; have HC2 := Lib.hid hc2; have HG2 := Lib.hid (HG1.out.trans' hg2); have HR2 := Lib.hid ((hg2.block w.heap.size (Array.getElem?_eq_some_iff.1 HR1.out).1 (by intro e; injection e; omega)).trans HR1.out); clear hc2 hg2)
    | (go_at_call 46; (with_reducible refine (H_ad.out _ HC2.out).mono ?_); rintro e w3 ⟨rfl, hc3, hg3⟩; have HC3 := Lib.hid hc3; have HG3 := Lib.hid (HG2.out.trans' hg3); have HR3 := Lib.hid ((hg3.block w.heap.size (Array.getElem?_eq_some_iff.1 HR2.out).1 (by intro e; injection e; omega)).trans HR2.out); clear hc3 hg3)
    | (go_at_call 46; (with_reducible refine (H_le.out _ HC3.out).mono ?_); rintro e w4 ⟨rfl, hc4, hg4⟩; have HC4 := Lib.hid hc4; have HG4 := Lib.hid (HG3.out.trans' hg4); have HR4 := Lib.hid ((hg4.block w.heap.size (Array.getElem?_eq_some_iff.1 HR3.out).1 (by intro e; injection e; omega)).trans HR3.out); clear hc4 hg4)
    | (go_at_call 46; (with_reducible refine (H_cn.out _ HC4.out).mono ?_); rintro e w5 ⟨rfl, hc5, hg5⟩; have HC5 := Lib.hid hc5; have HG5 := Lib.hid (HG4.out.trans' hg5); have HR5 := Lib.hid ((hg5.block w.heap.size (Array.getElem?_eq_some_iff.1 HR4.out).1 (by intro e; injection e; omega)).trans HR4.out); clear hc5 hg5)
    | (go_at_call 46; (with_reducible refine (H_co.out _ HC5.out).mono ?_); rintro e w6 ⟨rfl, hc6, hg6⟩; have HC6 := Lib.hid hc6; have HG6 := Lib.hid (HG5.out.trans' hg6); have HR6 := Lib.hid ((hg6.block w.heap.size (Array.getElem?_eq_some_iff.1 HR5.out).1 (by intro e; injection e; omega)).trans HR5.out); clear hc6 hg6)
    | (go_at_call 46; (with_reducible refine (H_cr.out _ HC6.out).mono ?_); rintro e w7 ⟨rfl, hc7, hg7⟩; have HC7 := Lib.hid hc7; have HG7 := Lib.hid (HG6.out.trans' hg7); have HR7 := Lib.hid ((hg7.block w.heap.size (Array.getElem?_eq_some_iff.1 HR6.out).1 (by intro e; injection e; omega)).trans HR6.out); clear hc7 hg7)
    | (refine wpList_store_row rfl 77 (.tmp 2) (.tmp 23) rfl w.heap.size _ rfl rfl 77 _ HR7.out (by kernel_rfl) (by kernel_rfl) (by kernel_rfl) ?_))
  refine bodyPost_ret (v := .agg #[.int .i64 kk.se, .int .i64 kk.st, .int .i64 z_en, .int .i64 z_ad, .int .i64 z_le, .int .i64 z_cn, .int .i64 z_co, .int .u32 z_cr]) (results_cell_row (p := 2) (ty := 77) rfl _ _ w.heap.size 77 #[.int .i64 kk.se, .int .i64 kk.st, .int .i64 z_en, .int .i64 z_ad, .int .i64 z_le, .int .i64 z_cn, .int .i64 z_co, .int .u32 z_cr] (0, 0) _ rfl (setRow_heap _ _ _ _ _ _ HR7.out) Try.underlying77 rfl (by kernel_rfl)) rfl ⟨rfl, ?_, ?_⟩
  · exact HC7.out.setRow HR7.out (by omega) (fun i z => by match i with | 0 => simp | 1 => simp | 2 => simp | 3 => simp | 4 => simp | 5 => simp | 6 => simp | 7 => simp | i + 8 => simp)
  · have hg := HG7.out
    exact ⟨hg.os, hg.tape, hg.output, by simpa using hg.size, fun k hk hne => (setRow_other _ _ _ _ (by omega)).trans (hg.block k hk hne)⟩
end Go.Proofs.Ytgkddhncfaeidaa
