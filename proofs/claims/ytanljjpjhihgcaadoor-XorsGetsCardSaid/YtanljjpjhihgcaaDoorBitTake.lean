/- Take of package bits: its contract. -/
import Derived.Test.YtanljjpjhihgcaaDoorBitRd
namespace Go.Proofs.YtanljjpjhihgcaaDoor
open Go.RowKit BitM
set_option linter.unusedVariables false

theorem take_nil (n : Int) (w : World) : Calls Tryd.prog 41 #[.pointer none, .int .i64 n] w fun e w' => e = .returned (.int .u64 0) ∧ w = w' := by
  go_enter Tryd.func41, Tryd.ntmps41
  go_wp2_with (go_at_call 57; refine (within_any _ _).mono ?_; rintro e w1 ⟨rfl, rfl⟩)
  go_ret
  exact ⟨rfl, rfl⟩

theorem RdAt.set1 {w : World} {g : Nat} {A : Option Addr} {n c p : Nat} {bad : Bool} (h : RdAt w g A n c p bad) (q : Nat) : RdAt (w.setCell ⟨g, 1, none⟩ (.int .i64 (q : Int))) g A n c q bad := by
  unfold RdAt at *
  rw [heap_setCell_same w g 1 _ _ _ h]
  rfl
theorem RdAt.set2 {w : World} {g : Nat} {A : Option Addr} {n c p : Nat} {bad : Bool} (h : RdAt w g A n c p bad) (b : Bool) : RdAt (w.setCell ⟨g, 2, none⟩ (.bool b)) g A n c p b := by
  unfold RdAt at *
  rw [heap_setCell_same w g 2 _ _ _ h]
  rfl
theorem RdAt.below {w w' : World} {g : Nat} {A : Option Addr} {n c p : Nat} {bad : Bool} (h : RdAt w g A n c p bad) (hb : Below w.heap.size w w') : RdAt w' g A n c p bad := by
  have := h.cells.2.2.2.2.2.2
  unfold RdAt at *
  rw [hb.block g this, h]
theorem grown_set {w w' : World} {g : Nat} (h : w.grownBy w' (some g)) (i : Nat) (v : Value) : w.grownBy (w'.setCell ⟨g, i, none⟩ v) (some g) :=
  ⟨h.os, h.tape, h.output, by simpa using h.size, fun k hk hne => (Below.heap_setCell w' ⟨g, i, none⟩ v k (fun e => hne (by rw [e]))).trans (h.block k hk hne)⟩
theorem grown_below_any {w w' w2 : World} {r : Option Nat} (h : w.grownBy w' r) (hb : Below w'.heap.size w' w2) : w.grownBy w2 r :=
  h.trans ⟨hb.os, hb.tape, hb.output, hb.size, fun k hk _ => hb.block k hk⟩
/-- The bytes that a Reader reads lie in another block. -/
theorem RdAt.apart {w : World} {g : Nat} {A : Option Addr} {n c p : Nat} {bad : Bool} (h : RdAt w g A n c p bad) {b off : Nat} {xs : List UInt8} (hx : BytesAt w (some ⟨b, off, none⟩) xs) (hne : xs ≠ []) : b ≠ g := by
  rintro rfl
  obtain ⟨b', off', he, hc⟩ := hx hne
  injection he with he
  injection he with h1 h2
  subst h1 h2
  have h0 := hc 0 (List.length_pos_iff.2 hne)
  unfold RdAt at h
  rw [cell_of_row w b _ _ _ _ h] at h0
  rcases (by omega : off = 0 ∨ off = 1 ∨ off = 2 ∨ 3 ≤ off) with rfl | rfl | rfl | h3
  · simp at h0
  · simp at h0
  · simp at h0
  · rw [Array.getElem?_eq_none (by simp; omega)] at h0
    cases h0
theorem bytes_beside {w w' : World} {g b off : Nat} {xs : List UInt8} (hx : BytesAt w (some ⟨b, off, none⟩) xs) (hg : w.grownBy w' (some g)) (hne : b ≠ g) : BytesAt w' (some ⟨b, off, none⟩) xs := fun h0 => by
  obtain ⟨b', off', he, hc⟩ := hx h0
  injection he with he
  injection he with h1 h2
  subst h1 h2
  refine ⟨b, off, rfl, fun k hk => ?_⟩
  have h1 := hc k hk
  rw [← h1]
  exact World.cell?_of_block (hg.block b (World.block_lt_of_cell? w _ h1) (by simp; exact fun e => hne e))

set_option maxRecDepth 100000 in
theorem take_bad (g : Nat) (A : Option Addr) (len c p : Nat) (bad : Bool) (n : Int) (w : World) (h : RdAt w g A len c p bad) (hl : len ≤ 1000000000) (hp : p ≤ 8 * len) (hb : bad = true ∨ 8 * len - p < wi n) :
    Calls Tryd.prog 41 #[.pointer (some ⟨g, 0, none⟩), .int .i64 n] w fun e w' => e = .returned (.int .u64 0) ∧ RdAt w' g A len c p true ∧ w.grownBy w' (some g) := by
  obtain ⟨c0, c1, c2, f0, f1, f2, hlt⟩ := h.cells
  have hwl := wi_le n
  obtain ⟨m, hm⟩ : ∃ m, m = wi n := ⟨_, rfl⟩
  cases bad with
  | true =>
    clear hb
    go_enter Tryd.func41, Tryd.ntmps41
    go_wp2_with (go_at_call 57; refine (within_any _ _).mono ?_; rintro e w1 ⟨rfl, rfl⟩)
    go_ret
    exact ⟨rfl, h.set2 true, grown_set (World.grownBy.refl w _) 2 _⟩
  | false =>
    have hb2 : 8 * len - p < m := by rw [hm]; rcases hb with hb | hb; (cases hb); exact hb
    clear hb
    have HM := Lib.hid hm
    rw [← hm] at hwl
    clear hm
    go_enter Tryd.func41, Tryd.ntmps41
    go_wp2_with (first
      | (go_at_call 57; refine (within_any _ _).mono ?_; rw [← HM.out]; rintro e w1 ⟨rfl, rfl⟩)
      | (go_at_call 44; refine (left_any g A len c p false _ h hl hp).mono ?_; rintro e w2 ⟨rfl, hbl⟩; have h2 := h.below hbl; obtain ⟨d0, d1, d2, g0, g1, g2, hlt2⟩ := h2.cells))
    go_ret
    exact ⟨rfl, h2.set2 true, grown_set (grown_below_any (World.grownBy.refl w _) hbl) 2 _⟩

theorem low_below (n : Nat) (hn : n ≤ 64) (w : World) : Calls Tryd.prog 58 #[.int .i64 (n : Int)] w fun e w' => e = .returned (.int .u64 ((2 ^ n - 1 : Nat) : Int)) ∧ Below w.heap.size w w' :=
  (low_any n hn w).mono fun e w' ⟨he, hw⟩ => ⟨he, by rw [← hw]; exact Below.refl _ _⟩

theorem and_low (x k : Nat) (hx : x < 18446744073709551616) (hk : k ≤ 64) : bits BinOp.and IntKind.u64 (x : Int) ((2 ^ k - 1 : Nat) : Int) = ((x % 2 ^ k : Nat) : Int) := by
  have h1 : 2 ^ k ≤ 2 ^ 64 := Nat.pow_le_pow_right (by omega) hk
  rw [u64_and_nat _ _ hx (by omega), Nat.and_two_pow_sub_one_eq_mod]
theorem or_join (a z k : Nat) (hz : z < 2 ^ k) (h : a * 2 ^ k + z < 18446744073709551616) : bits BinOp.or IntKind.u64 ((a * 2 ^ k : Nat) : Int) (z : Int) = ((a * 2 ^ k + z : Nat) : Int) := by
  rw [u64_or_nat _ _ (by omega) (by omega), ← Nat.shiftLeft_eq, ← Nat.shiftLeft_add_eq_or_of_lt hz]

set_option maxHeartbeats 400000 in
set_option maxRecDepth 100000 in
theorem take_ok (g b off : Nat) (len c p : Nat) (n : Int) (xs : List UInt8) (w : World) (h : RdAt w g (some ⟨b, off, none⟩) len c p false) (hx : BytesAt w (some ⟨b, off, none⟩) xs) (hxl : xs.length = len) (hl : len ≤ 1000000000) (hbg : b ≠ g) (hb : p + wi n ≤ 8 * len) :
    Calls Tryd.prog 41 #[.pointer (some ⟨g, 0, none⟩), .int .i64 n] w fun e w' => e = .returned (.int .u64 (mid (valB xs) (8 * len) p (p + wi n) : Nat)) ∧ RdAt w' g (some ⟨b, off, none⟩) len c (p + wi n) false ∧ w.grownBy w' (some g) := by
  obtain ⟨c0, c1, c2, f0, f1, f2, hlt⟩ := h.cells
  have hwl := wi_le n
  obtain ⟨m, hm⟩ : ∃ m, m = wi n := ⟨_, rfl⟩
  rw [← hm] at hb hwl ⊢
  have HM := Lib.hid hm
  clear hm
  obtain ⟨B, hB⟩ : ∃ B, B = valB xs := ⟨_, rfl⟩
  rw [← hB]
  have HB := Lib.hid hB
  clear hB
  have hb2 : ¬ (8 * len - p < m) := by omega
  have hb3 : m ≤ 8 * len - p := by omega
  go_enter Tryd.func41, Tryd.ntmps41
  go_wp2_with (first
    | (go_at_call 57; refine (within_any _ _).mono ?_; rw [← HM.out]; rintro e w1 ⟨rfl, rfl⟩)
    | (go_at_call 44; refine (left_any g _ len c p false _ h hl (by omega)).mono ?_; rintro e w2 ⟨rfl, hbl⟩; have h2 := h.below hbl; obtain ⟨d0, d1, d2, g0, g1, g2, hlt2⟩ := h2.cells))
  have h3 := h2.set2 false
  have hg3 := grown_set (grown_below_any (World.grownBy.refl w _) hbl) (g := g) 2 (.bool false)
  clear c0 c1 c2 f0 f1 f2 d0 d1 d2 g0 g1 g2 h2 hlt2
  generalize w2.setCell ⟨g, 2, none⟩ (.bool false) = wq at *
  have hxq := bytes_beside hx hg3 hbg
  clear hb2 hb3 hbl hx
  go_loopw [1, 5] (fun i v wr => ∃ j P rr : Nat, j ≤ m ∧ Hid (P = p + j) ∧ Hid (rr = m - j) ∧ i = .int .i64 rr ∧ v = .int .u64 (mid B (8 * len) p P : Nat) ∧ RdAt wr g (some ⟨b, off, none⟩) len c P false ∧ wq.grownBy wr (some g)) (fun i _ _ => (intOf i).toNat)
  case atStart => exact ⟨0, p, m, by omega, Lib.hid rfl, Lib.hid rfl, rfl, by rw [mid_none]; rfl, h3, World.grownBy.refl wq _⟩
  case round =>
    obtain ⟨j, P, rr, hj, HP, HRR, rfl, rfl, hr, hg⟩ := hrel
    obtain ⟨c0, c1, c2, f0, f1, f2, hlt⟩ := hr.cells
    by_cases hjm : 0 < rr
    · have hP8 : P < 8 * len := by have := HP.out; have := HRR.out; omega
      obtain ⟨f, hf⟩ : ∃ f, f = 8 - P % 8 := ⟨_, rfl⟩
      obtain ⟨k, hk⟩ : ∃ k, k = min rr f := ⟨_, rfl⟩
      obtain ⟨q, hq⟩ : ∃ q, q = P / 8 := ⟨_, rfl⟩
      have hk1 : 1 ≤ k := by omega
      have hkf : k ≤ f := by omega
      have hkr : k ≤ rr := by omega
      have hf8 : f ≤ 8 := by omega
      have hql : q < xs.length := by omega
      have hw1 : (8 : Int) - (P : Int) % 8 = (f : Int) := by omega
      have hw2 : min (rr : Int) (f : Int) = (k : Int) := by omega
      obtain ⟨b', off', he, hc⟩ := (bytes_beside hxq hg hbg) (by intro h0; rw [h0] at hql; simp at hql)
      injection he with he
      injection he with e1 e2
      subst e1 e2
      have hcq := hc q hql
      clear hc
      have hmid := mid_byte xs P k (by omega) (by omega)
      have hmore := mid_more B (8 * len) p P k (by have := HP.out; omega) (by have := HP.out; have := HRR.out; omega)
      obtain ⟨x, hxv⟩ : ∃ x : Nat, x = xs[q].toNat := ⟨_, rfl⟩
      have hx8 : x < 256 := by rw [hxv]; exact xs[q].toNat_lt
      rw [← hxv] at hcq
      obtain ⟨d, hd⟩ : ∃ d, d = f - k := ⟨_, rfl⟩
      have hz : mid B (8 * len) P (P + k) = x / 2 ^ d % 2 ^ k := by
        subst hf hd hq
        rw [HB.out, ← hxl, hmid, hxv]
      rw [hz] at hmore
      have hmlt : mid B (8 * len) p (P + k) < 18446744073709551616 := by
        have h1 := mid_lt B (8 * len) p (P + k)
        have h2 : 2 ^ (P + k - p) ≤ 2 ^ 64 := Nat.pow_le_pow_right (by omega) (by have := HP.out; have := HRR.out; omega)
        omega
      obtain ⟨M, hM⟩ : ∃ M, M = mid B (8 * len) p P := ⟨_, rfl⟩
      rw [← hM] at hmore ⊢
      rw [hmore] at hmlt
      have hzlt : x / 2 ^ d % 2 ^ k < 2 ^ k := Nat.mod_lt _ (Nat.pow_pos (by omega))
      obtain ⟨z, hzz⟩ : ∃ z, z = x / 2 ^ d % 2 ^ k := ⟨_, rfl⟩
      rw [← hzz] at hmore hmlt hzlt
      have hxd : x / 2 ^ d < 18446744073709551616 := Nat.lt_of_le_of_lt (Nat.div_le_self _ _) (by omega)
      have v1 : (P : Int).tdiv 8 = (q : Int) := by rw [Int.tdiv_eq_ediv_of_nonneg (by omega)]; omega
      have v2 : IntKind.i64.wrap (q : Int) = (q : Int) := IntWalk.i64_in _ (by omega)
      have v3 : IntKind.u64.wrap (x : Int) = (x : Int) := by rw [IntKind.wrap_u64]; omega
      have v4 : IntKind.i64.wrap ((f : Int) - (k : Int)) = (d : Int) := by rw [IntWalk.i64_in _ (by omega)]; omega
      have v5 : (x : Int) / 2 ^ d = ((x / 2 ^ d : Nat) : Int) := by simp
      have v6 : bits BinOp.and IntKind.u64 ((x / 2 ^ d : Nat) : Int) ((2 ^ k - 1 : Nat) : Int) = (z : Int) := by rw [and_low _ _ hxd (by omega), hzz]
      have v7 : IntKind.u64.wrap ((M : Int) * 2 ^ k) = ((M * 2 ^ k : Nat) : Int) := by
        have : (M : Int) * 2 ^ k = ((M * 2 ^ k : Nat) : Int) := by simp
        rw [this, IntKind.wrap_u64]
        omega
      have v8 := or_join M z k hzlt hmlt
      have V6 := Lib.hid v6
      have V7 := Lib.hid v7
      have V8 := Lib.hid v8
      have HF := Lib.hid hf
      have HK := Lib.hid hk
      have HQ := Lib.hid hq
      have HD := Lib.hid hd
      have HMORE := Lib.hid hmore
      have hd0 : (0 : Int) ≤ (d : Int) := by omega
      have hqn : q < len := by omega
      have hk64 : k ≤ 64 := by omega
      clear v6 v7 v8 hf hk hq hd hmore hz hzz hmlt hM hxv hmid
      go_wp2_with fail
      have hblt := World.block_lt_of_cell? wr _ hcq
      have k0 : ∀ y : SubW wr.heap.size wr, y.at_.cell? ⟨g, 0, none⟩ = some (.slice (some ⟨b, off, none⟩) len c) := fun y => (World.cell?_of_block (a := ⟨g, 0, none⟩) (y.ok_.block _ hlt)).trans c0
      have k1 : ∀ y : SubW wr.heap.size wr, y.at_.cell? ⟨g, 1, none⟩ = some (.int .i64 (P : Int)) := fun y => (World.cell?_of_block (a := ⟨g, 1, none⟩) (y.ok_.block _ hlt)).trans c1
      have k2 : ∀ y : SubW wr.heap.size wr, y.at_.cell? ⟨b, off + q, none⟩ = some (.int .u8 (x : Int)) := fun y => (World.cell?_of_block (a := ⟨b, off + q, none⟩) (y.ok_.block _ hblt)).trans hcq
      refine region_below wr.heap.size wr (Below.refl _ _) (by kernel_rfl) (by kernel_rfl) ?_
      repeat (go_big_quiet_step ((go_at_call 58; exact calls_sub (Nat.le_refl _) (low_below k hk64 _))))
      refine wpQuiet_nil ?_
      rintro w' ⟨y, rfl⟩
      have hry := hr.below y.ok_
      obtain ⟨d0, d1, d2, g0, g1, g2, hlt2⟩ := hry.cells
      go_wp2_with fail
      have hd8 : min d 64 = d := by have := HD.out; omega
      have hrk : wrap64 ((rr : Int) - (k : Int)) = ((rr - k : Nat) : Int) := by rw [IntWalk.wrap64_in _ (by have := HRR.out; omega)]; omega
      rw [hd8, v5, V6.out, V7.out, V8.out, hrk]
      go_roundw
      case rel =>
        refine ⟨j + k, P + k, rr - k, by have := HRR.out; omega, Lib.hid (by have := HP.out; omega), Lib.hid (by have := HRR.out; omega), rfl, ?_, ?_, ?_⟩
        · rw [HMORE.out]
        · exact hry.set1 (P + k)
        · exact grown_set (grown_below_any hg y.ok_) 1 _
      case measure => simp [intOf]; omega
    · obtain rfl : rr = 0 := by omega
      obtain rfl : j = m := by have := HRR.out; omega
      have hPP := HP.out
      subst hPP
      clear HP HRR
      go_wp2_with fail
      go_ret
      exact ⟨rfl, hr, hg3.trans hg⟩
end Go.Proofs.YtanljjpjhihgcaaDoor
