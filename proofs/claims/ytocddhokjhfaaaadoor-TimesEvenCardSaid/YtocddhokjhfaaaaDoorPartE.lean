/- Several texts in one: The walk of TimesClasses. The walk of TimesEven. What the condition on times' table gives: where it stands; a world that meets it. -/
import Derived.Test.YtocddhokjhfaaaaDoorPartD
import Derived.Test.YtocddhokjhfaaaaDoorPartA
import Derived.Test.YtocddhokjhfaaaaDoorRows
import Derived.LaidMore
import Derived.LaidHandle
import Derived.Lib.LaidTab
import Derived.ChangeSame
import Derived.Stop.Joined
namespace BitM
open Go.Proofs.YtocddhokjhfaaaaDoor
theorem i64_cong (z : Int) : ∃ k : Int, i64 z = z + 18446744073709551616 * k := by
  refine ⟨-((z + 9223372036854775808) / 18446744073709551616), ?_⟩
  unfold i64 Go.RowKit.wrap64
  omega
theorem i64_of (z d k : Int) (h : z = d + 18446744073709551616 * k) (h1 : -9223372036854775808 ≤ d) (h2 : d ≤ 9223372036854775807) : i64 z = d := by
  subst h
  unfold i64 Go.RowKit.wrap64
  omega
theorem turn_classes (f s d z1 z2 : Int) (h1 : -9223372036854775808 ≤ d) (h2 : d ≤ 9223372036854775807) (k1 k2 : Int) (e1 : z1 = f + s + 18446744073709551616 * k1) (e2 : z2 = f + 2 * s + d + 18446744073709551616 * k2) : turn [f, z1, z2] 1 = d := by
  show i64 (i64 (z2 - z1) - i64 (z1 - f)) = d
  obtain ⟨a, ha⟩ := i64_cong (z2 - z1)
  obtain ⟨b, hb⟩ := i64_cong (z1 - f)
  refine i64_of _ d (k2 - k1 + a - (k1 + b)) ?_ h1 h2
  rw [ha, hb, e1, e2]
  omega
theorem tby3_len (f z1 z2 d : Int) (h : turn [f, z1, z2] 1 = d) : (tby [f, z1, z2]).length = (128 + cM (cls d) + cB (cls d) + 7) / 8 := by
  rw [tby_len (by simp)]
  show (((tch (turn [f, z1, z2] 1)).foldl stp (tt [f, z1, z2] 1)).1 + 7) / 8 = _
  rw [tch_len, h]
  have : (tt [f, z1, z2] 1).1 = 128 := by
    show 0 + wi 64 + wi 64 = 128
    rw [show wi 64 = 64 by decide]
  rw [this]
end BitM
namespace Go.Proofs.YtocddhokjhfaaaaDoor
open Go.RowKit BitM
set_option linter.unusedVariables false

theorem times_three (w : World) (a b c : Int) (t : TypeId) : TimesAt (w.alloc (.cells #[.int .i64 a, .int .i64 b, .int .i64 c] t)) (some ⟨w.heap.size, 0, none⟩) [a, b, c] := fun _ => by
  refine ⟨w.heap.size, 0, rfl, fun k hk => ?_⟩
  have : k = 0 ∨ k = 1 ∨ k = 2 := by simp at hk; omega
  rcases this with rfl | rfl | rfl
  · rw [World.cell?_alloc_new]; rfl
  · rw [World.cell?_alloc_new]; rfl
  · rw [World.cell?_alloc_new]; rfl

set_option maxHeartbeats 1000000 in
set_option maxRecDepth 100000 in
theorem timesClasses_walk (f : Int) (hf : (Lit.int .i64 f).wf = true) (s : Int) (hs : (Lit.int .i64 s).wf = true) (d : Int) (hd : (Lit.int .i64 d).wf = true) {w : World} (hk : KindsAt w) :
    Calls Tryd.prog 4 #[.int .i64 f, .int .i64 s, .int .i64 d] w fun e w' => e = .returned (.bool true) ∧ Below w.heap.size w w' := by
  have bf := bounds_i64 hf
  have bs := bounds_i64 hs
  have bd := bounds_i64 hd
  obtain ⟨z1, hz1⟩ : ∃ z, z = i64 (f + s) := ⟨_, rfl⟩
  obtain ⟨s2, hs2⟩ : ∃ z, z = i64 (2 * s) := ⟨_, rfl⟩
  obtain ⟨z3, hz3⟩ : ∃ z, z = i64 (f + s2) := ⟨_, rfl⟩
  obtain ⟨z2, hz2⟩ : ∃ z, z = i64 (z3 + d) := ⟨_, rfl⟩
  have w1 : wrap64 (f + s) = z1 := hz1.symm
  have w2 : wrap64 (2 * s) = s2 := hs2.symm
  have w3 : wrap64 (f + s2) = z3 := hz3.symm
  have w4 : wrap64 (z3 + d) = z2 := hz2.symm
  have ht : turn [f, z1, z2] 1 = d := by
    obtain ⟨a1, e1⟩ := i64_cong (f + s)
    obtain ⟨a2, e2⟩ := i64_cong (2 * s)
    obtain ⟨a3, e3⟩ := i64_cong (f + s2)
    obtain ⟨a4, e4⟩ := i64_cong (z3 + d)
    rw [← hz1] at e1
    rw [← hs2] at e2
    rw [← hz3] at e3
    rw [← hz2] at e4
    exact turn_classes f s d z1 z2 (by omega) (by omega) a1 (a2 + a3 + a4) e1 (by rw [e4, e3, e2]; omega)
  have hlen := tby3_len f z1 z2 d ht
  have r1 := i64_range (f + s)
  rw [← hz1] at r1
  have r2 := i64_range (z3 + d)
  rw [← hz2] at r2
  have hm : ∀ v ∈ [f, z1, z2], -9223372036854775808 ≤ v ∧ v ≤ 9223372036854775807 := by
    intro v hv
    simp at hv
    rcases hv with rfl | rfl | rfl
    · omega
    · exact r1
    · exact r2
  obtain ⟨Z, hZ⟩ : ∃ Z, tby [f, z1, z2] = Z := ⟨_, rfl⟩
  rw [hZ] at hlen
  have HM := Lib.hid hm
  have HZ := Lib.hid hZ
  have HK := Lib.hid hk
  have HLEN := Lib.hid hlen
  have HX0 : Hid (Z = Z ++ []) := Lib.hid (List.append_nil _).symm
  have hb0 : Below w.heap.size w (w.alloc (.cells #[.int .i64 f, .int .i64 z1, .int .i64 z2] 2)) := (Below.refl _ _).alloc (Nat.le_refl _) _
  have hx0 := times_three w f z1 z2 2
  clear hm hZ hk hlen ht r1 r2 hz1 hs2 hz3 hz2 hf hs hd
  by_cases h0 : d = 0
  · have dz : (d == 0) = true := by rw [h0]; rfl
    have hc : cls d = 0 := by unfold cls; split <;> (try split) <;> (try split) <;> (try split) <;> omega
    have hzl : Z.length = 17 := by rw [HLEN.out, hc]; rfl
    clear h0
    have HZL := Lib.hid hzl
    clear hc hzl
    go_enter Tryd.func4, Tryd.ntmps4
    go_wp2_with (first
      | (go_at_call 8; with_reducible refine (timesPut2 (some ⟨w.heap.size, 0, none⟩) 3 3 [f, z1, z2] Z 17 _ HZ.out HZL.out rfl hx0 (by omega) (HK.out.below hb0)).mono ?_; rintro e w5 ⟨A5, c5, rfl, hx5, hc5, hm5, hb5⟩; have hbw5 := hb0.trans (hb5.mono hb0.size))
      | (go_at_call 9; with_reducible refine (timesGet2 A5 17 c5 3 3 Z [] Z [f, z1, z2] 17 _ rfl HZ.out HX0.out HZL.out (by omega) hx5 hc5 hm5 rfl (by omega) HM.out HZL.out (HK.out.below hbw5)).mono ?_; rintro e w6 ⟨A6, c6, rfl, hx6, hb6⟩; have hbw6 := hbw5.trans (hb6.mono hbw5.size))
      | (go_at_call 10; refine (twputs_any _).mono ?_; rintro e w7 ⟨rfl, hb7⟩; have hbw7 := hbw6.trans (hb7.mono hbw6.size))
      | (go_at_call 11; refine (same_times _ _ 3 _ _ [f, z1, z2] _ rfl (hx6.below hb7) (((hx0.below hb5).below hb6).below hb7) (by omega)).mono ?_; rintro e w8 ⟨rfl, hb8⟩))
    go_ret
    exact ⟨rfl, hbw7.trans (hb8.mono hbw7.size)⟩
  have dz : (d == 0) = false := by rw [beq_eq_false_iff_ne]; exact h0
  by_cases h1 : -64 ≤ d ∧ d < 64
  · skip
    have hc : cls d = 1 := by unfold cls; split <;> (try split) <;> (try split) <;> (try split) <;> omega
    have hzl : Z.length = 18 := by rw [HLEN.out, hc]; rfl
    have dl64 : decide (-64 ≤ d) = true := by rw [decide_eq_true_iff]; omega
    have dh64 : decide (d < 64) = true := by rw [decide_eq_true_iff]; omega
    have HZL := Lib.hid hzl
    clear hc hzl
    go_enter Tryd.func4, Tryd.ntmps4
    go_wp2_with (first
      | (go_at_call 8; with_reducible refine (timesPut2 (some ⟨w.heap.size, 0, none⟩) 3 3 [f, z1, z2] Z 18 _ HZ.out HZL.out rfl hx0 (by omega) (HK.out.below hb0)).mono ?_; rintro e w5 ⟨A5, c5, rfl, hx5, hc5, hm5, hb5⟩; have hbw5 := hb0.trans (hb5.mono hb0.size))
      | (go_at_call 9; with_reducible refine (timesGet2 A5 18 c5 3 3 Z [] Z [f, z1, z2] 18 _ rfl HZ.out HX0.out HZL.out (by omega) hx5 hc5 hm5 rfl (by omega) HM.out HZL.out (HK.out.below hbw5)).mono ?_; rintro e w6 ⟨A6, c6, rfl, hx6, hb6⟩; have hbw6 := hbw5.trans (hb6.mono hbw5.size))
      | (go_at_call 10; refine (twputs_any _).mono ?_; rintro e w7 ⟨rfl, hb7⟩; have hbw7 := hbw6.trans (hb7.mono hbw6.size))
      | (go_at_call 11; refine (same_times _ _ 3 _ _ [f, z1, z2] _ rfl (hx6.below hb7) (((hx0.below hb5).below hb6).below hb7) (by omega)).mono ?_; rintro e w8 ⟨rfl, hb8⟩))
    go_ret
    exact ⟨rfl, hbw7.trans (hb8.mono hbw7.size)⟩
  by_cases h2 : -256 ≤ d ∧ d < -64
  · skip
    have hc : cls d = 2 := by unfold cls; split <;> (try split) <;> (try split) <;> (try split) <;> omega
    have hzl : Z.length = 18 := by rw [HLEN.out, hc]; rfl
    have dl64 : decide (-64 ≤ d) = false := by rw [decide_eq_false_iff_not]; omega
    have dl256 : decide (-256 ≤ d) = true := by rw [decide_eq_true_iff]; omega
    have dh256 : decide (d < 256) = true := by rw [decide_eq_true_iff]; omega
    have HZL := Lib.hid hzl
    clear hc hzl
    go_enter Tryd.func4, Tryd.ntmps4
    go_wp2_with (first
      | (go_at_call 8; with_reducible refine (timesPut2 (some ⟨w.heap.size, 0, none⟩) 3 3 [f, z1, z2] Z 18 _ HZ.out HZL.out rfl hx0 (by omega) (HK.out.below hb0)).mono ?_; rintro e w5 ⟨A5, c5, rfl, hx5, hc5, hm5, hb5⟩; have hbw5 := hb0.trans (hb5.mono hb0.size))
      | (go_at_call 9; with_reducible refine (timesGet2 A5 18 c5 3 3 Z [] Z [f, z1, z2] 18 _ rfl HZ.out HX0.out HZL.out (by omega) hx5 hc5 hm5 rfl (by omega) HM.out HZL.out (HK.out.below hbw5)).mono ?_; rintro e w6 ⟨A6, c6, rfl, hx6, hb6⟩; have hbw6 := hbw5.trans (hb6.mono hbw5.size))
      | (go_at_call 10; refine (twputs_any _).mono ?_; rintro e w7 ⟨rfl, hb7⟩; have hbw7 := hbw6.trans (hb7.mono hbw6.size))
      | (go_at_call 11; refine (same_times _ _ 3 _ _ [f, z1, z2] _ rfl (hx6.below hb7) (((hx0.below hb5).below hb6).below hb7) (by omega)).mono ?_; rintro e w8 ⟨rfl, hb8⟩))
    go_ret
    exact ⟨rfl, hbw7.trans (hb8.mono hbw7.size)⟩
  by_cases h3 : 64 ≤ d ∧ d < 256
  · skip
    have hc : cls d = 2 := by unfold cls; split <;> (try split) <;> (try split) <;> (try split) <;> omega
    have hzl : Z.length = 18 := by rw [HLEN.out, hc]; rfl
    have dl64 : decide (-64 ≤ d) = true := by rw [decide_eq_true_iff]; omega
    have dh64 : decide (d < 64) = false := by rw [decide_eq_false_iff_not]; omega
    have dl256 : decide (-256 ≤ d) = true := by rw [decide_eq_true_iff]; omega
    have dh256 : decide (d < 256) = true := by rw [decide_eq_true_iff]; omega
    have HZL := Lib.hid hzl
    clear hc hzl
    go_enter Tryd.func4, Tryd.ntmps4
    go_wp2_with (first
      | (go_at_call 8; with_reducible refine (timesPut2 (some ⟨w.heap.size, 0, none⟩) 3 3 [f, z1, z2] Z 18 _ HZ.out HZL.out rfl hx0 (by omega) (HK.out.below hb0)).mono ?_; rintro e w5 ⟨A5, c5, rfl, hx5, hc5, hm5, hb5⟩; have hbw5 := hb0.trans (hb5.mono hb0.size))
      | (go_at_call 9; with_reducible refine (timesGet2 A5 18 c5 3 3 Z [] Z [f, z1, z2] 18 _ rfl HZ.out HX0.out HZL.out (by omega) hx5 hc5 hm5 rfl (by omega) HM.out HZL.out (HK.out.below hbw5)).mono ?_; rintro e w6 ⟨A6, c6, rfl, hx6, hb6⟩; have hbw6 := hbw5.trans (hb6.mono hbw5.size))
      | (go_at_call 10; refine (twputs_any _).mono ?_; rintro e w7 ⟨rfl, hb7⟩; have hbw7 := hbw6.trans (hb7.mono hbw6.size))
      | (go_at_call 11; refine (same_times _ _ 3 _ _ [f, z1, z2] _ rfl (hx6.below hb7) (((hx0.below hb5).below hb6).below hb7) (by omega)).mono ?_; rintro e w8 ⟨rfl, hb8⟩))
    go_ret
    exact ⟨rfl, hbw7.trans (hb8.mono hbw7.size)⟩
  by_cases h4 : -2048 ≤ d ∧ d < -256
  · skip
    have hc : cls d = 3 := by unfold cls; split <;> (try split) <;> (try split) <;> (try split) <;> omega
    have hzl : Z.length = 18 := by rw [HLEN.out, hc]; rfl
    have dl64 : decide (-64 ≤ d) = false := by rw [decide_eq_false_iff_not]; omega
    have dl256 : decide (-256 ≤ d) = false := by rw [decide_eq_false_iff_not]; omega
    have dl2048 : decide (-2048 ≤ d) = true := by rw [decide_eq_true_iff]; omega
    have dh2048 : decide (d < 2048) = true := by rw [decide_eq_true_iff]; omega
    have HZL := Lib.hid hzl
    clear hc hzl
    go_enter Tryd.func4, Tryd.ntmps4
    go_wp2_with (first
      | (go_at_call 8; with_reducible refine (timesPut2 (some ⟨w.heap.size, 0, none⟩) 3 3 [f, z1, z2] Z 18 _ HZ.out HZL.out rfl hx0 (by omega) (HK.out.below hb0)).mono ?_; rintro e w5 ⟨A5, c5, rfl, hx5, hc5, hm5, hb5⟩; have hbw5 := hb0.trans (hb5.mono hb0.size))
      | (go_at_call 9; with_reducible refine (timesGet2 A5 18 c5 3 3 Z [] Z [f, z1, z2] 18 _ rfl HZ.out HX0.out HZL.out (by omega) hx5 hc5 hm5 rfl (by omega) HM.out HZL.out (HK.out.below hbw5)).mono ?_; rintro e w6 ⟨A6, c6, rfl, hx6, hb6⟩; have hbw6 := hbw5.trans (hb6.mono hbw5.size))
      | (go_at_call 10; refine (twputs_any _).mono ?_; rintro e w7 ⟨rfl, hb7⟩; have hbw7 := hbw6.trans (hb7.mono hbw6.size))
      | (go_at_call 11; refine (same_times _ _ 3 _ _ [f, z1, z2] _ rfl (hx6.below hb7) (((hx0.below hb5).below hb6).below hb7) (by omega)).mono ?_; rintro e w8 ⟨rfl, hb8⟩))
    go_ret
    exact ⟨rfl, hbw7.trans (hb8.mono hbw7.size)⟩
  by_cases h5 : 256 ≤ d ∧ d < 2048
  · skip
    have hc : cls d = 3 := by unfold cls; split <;> (try split) <;> (try split) <;> (try split) <;> omega
    have hzl : Z.length = 18 := by rw [HLEN.out, hc]; rfl
    have dl64 : decide (-64 ≤ d) = true := by rw [decide_eq_true_iff]; omega
    have dh64 : decide (d < 64) = false := by rw [decide_eq_false_iff_not]; omega
    have dl256 : decide (-256 ≤ d) = true := by rw [decide_eq_true_iff]; omega
    have dh256 : decide (d < 256) = false := by rw [decide_eq_false_iff_not]; omega
    have dl2048 : decide (-2048 ≤ d) = true := by rw [decide_eq_true_iff]; omega
    have dh2048 : decide (d < 2048) = true := by rw [decide_eq_true_iff]; omega
    have HZL := Lib.hid hzl
    clear hc hzl
    go_enter Tryd.func4, Tryd.ntmps4
    go_wp2_with (first
      | (go_at_call 8; with_reducible refine (timesPut2 (some ⟨w.heap.size, 0, none⟩) 3 3 [f, z1, z2] Z 18 _ HZ.out HZL.out rfl hx0 (by omega) (HK.out.below hb0)).mono ?_; rintro e w5 ⟨A5, c5, rfl, hx5, hc5, hm5, hb5⟩; have hbw5 := hb0.trans (hb5.mono hb0.size))
      | (go_at_call 9; with_reducible refine (timesGet2 A5 18 c5 3 3 Z [] Z [f, z1, z2] 18 _ rfl HZ.out HX0.out HZL.out (by omega) hx5 hc5 hm5 rfl (by omega) HM.out HZL.out (HK.out.below hbw5)).mono ?_; rintro e w6 ⟨A6, c6, rfl, hx6, hb6⟩; have hbw6 := hbw5.trans (hb6.mono hbw5.size))
      | (go_at_call 10; refine (twputs_any _).mono ?_; rintro e w7 ⟨rfl, hb7⟩; have hbw7 := hbw6.trans (hb7.mono hbw6.size))
      | (go_at_call 11; refine (same_times _ _ 3 _ _ [f, z1, z2] _ rfl (hx6.below hb7) (((hx0.below hb5).below hb6).below hb7) (by omega)).mono ?_; rintro e w8 ⟨rfl, hb8⟩))
    go_ret
    exact ⟨rfl, hbw7.trans (hb8.mono hbw7.size)⟩
  by_cases h6 : d < -2048
  · skip
    have hc : cls d = 4 := by unfold cls; split <;> (try split) <;> (try split) <;> (try split) <;> omega
    have hzl : Z.length = 25 := by rw [HLEN.out, hc]; rfl
    have dl64 : decide (-64 ≤ d) = false := by rw [decide_eq_false_iff_not]; omega
    have dl256 : decide (-256 ≤ d) = false := by rw [decide_eq_false_iff_not]; omega
    have dl2048 : decide (-2048 ≤ d) = false := by rw [decide_eq_false_iff_not]; omega
    have HZL := Lib.hid hzl
    clear hc hzl
    go_enter Tryd.func4, Tryd.ntmps4
    go_wp2_with (first
      | (go_at_call 8; with_reducible refine (timesPut2 (some ⟨w.heap.size, 0, none⟩) 3 3 [f, z1, z2] Z 25 _ HZ.out HZL.out rfl hx0 (by omega) (HK.out.below hb0)).mono ?_; rintro e w5 ⟨A5, c5, rfl, hx5, hc5, hm5, hb5⟩; have hbw5 := hb0.trans (hb5.mono hb0.size))
      | (go_at_call 9; with_reducible refine (timesGet2 A5 25 c5 3 3 Z [] Z [f, z1, z2] 25 _ rfl HZ.out HX0.out HZL.out (by omega) hx5 hc5 hm5 rfl (by omega) HM.out HZL.out (HK.out.below hbw5)).mono ?_; rintro e w6 ⟨A6, c6, rfl, hx6, hb6⟩; have hbw6 := hbw5.trans (hb6.mono hbw5.size))
      | (go_at_call 10; refine (twputs_any _).mono ?_; rintro e w7 ⟨rfl, hb7⟩; have hbw7 := hbw6.trans (hb7.mono hbw6.size))
      | (go_at_call 11; refine (same_times _ _ 3 _ _ [f, z1, z2] _ rfl (hx6.below hb7) (((hx0.below hb5).below hb6).below hb7) (by omega)).mono ?_; rintro e w8 ⟨rfl, hb8⟩))
    go_ret
    exact ⟨rfl, hbw7.trans (hb8.mono hbw7.size)⟩
  have h7 : 2048 ≤ d := by omega
  have hc : cls d = 4 := by unfold cls; split <;> (try split) <;> (try split) <;> (try split) <;> omega
  have hzl : Z.length = 25 := by rw [HLEN.out, hc]; rfl
  have dl64 : decide (-64 ≤ d) = true := by rw [decide_eq_true_iff]; omega
  have dh64 : decide (d < 64) = false := by rw [decide_eq_false_iff_not]; omega
  have dl256 : decide (-256 ≤ d) = true := by rw [decide_eq_true_iff]; omega
  have dh256 : decide (d < 256) = false := by rw [decide_eq_false_iff_not]; omega
  have dl2048 : decide (-2048 ≤ d) = true := by rw [decide_eq_true_iff]; omega
  have dh2048 : decide (d < 2048) = false := by rw [decide_eq_false_iff_not]; omega
  have HZL := Lib.hid hzl
  clear hc hzl
  go_enter Tryd.func4, Tryd.ntmps4
  go_wp2_with (first
    | (go_at_call 8; with_reducible refine (timesPut2 (some ⟨w.heap.size, 0, none⟩) 3 3 [f, z1, z2] Z 25 _ HZ.out HZL.out rfl hx0 (by omega) (HK.out.below hb0)).mono ?_; rintro e w5 ⟨A5, c5, rfl, hx5, hc5, hm5, hb5⟩; have hbw5 := hb0.trans (hb5.mono hb0.size))
    | (go_at_call 9; with_reducible refine (timesGet2 A5 25 c5 3 3 Z [] Z [f, z1, z2] 25 _ rfl HZ.out HX0.out HZL.out (by omega) hx5 hc5 hm5 rfl (by omega) HM.out HZL.out (HK.out.below hbw5)).mono ?_; rintro e w6 ⟨A6, c6, rfl, hx6, hb6⟩; have hbw6 := hbw5.trans (hb6.mono hbw5.size))
    | (go_at_call 10; refine (twputs_any _).mono ?_; rintro e w7 ⟨rfl, hb7⟩; have hbw7 := hbw6.trans (hb7.mono hbw6.size))
    | (go_at_call 11; refine (same_times _ _ 3 _ _ [f, z1, z2] _ rfl (hx6.below hb7) (((hx0.below hb5).below hb6).below hb7) (by omega)).mono ?_; rintro e w8 ⟨rfl, hb8⟩))
  go_ret
  exact ⟨rfl, hbw7.trans (hb8.mono hbw7.size)⟩
end Go.Proofs.YtocddhokjhfaaaaDoor

namespace BitM
open Go.Proofs.YtocddhokjhfaaaaDoor
/-- Times with one step between them. -/
def evens (f s : Int) : Nat → List Int
  | 0 => []
  | k + 1 => evens f s k ++ [i64 (f + k * s)]
theorem evens_len (f s : Int) : ∀ k, (evens f s k).length = k
  | 0 => rfl
  | k + 1 => by simp [evens, evens_len f s k]
theorem evens_get (f s : Int) : ∀ n k, k < n → (evens f s n).getD k 0 = i64 (f + k * s)
  | 0, k, h => by omega
  | n + 1, k, h => by
    show (evens f s n ++ [i64 (f + n * s)]).getD k 0 = _
    rw [List.getD_eq_getElem?_getD]
    rcases Nat.lt_or_ge k n with h1 | h1
    · rw [List.getElem?_append_left (by rw [evens_len]; exact h1), ← List.getD_eq_getElem?_getD]
      exact evens_get f s n k h1
    · obtain rfl : k = n := by omega
      rw [List.getElem?_append_right (by rw [evens_len]; omega), evens_len, Nat.sub_self]
      rfl
theorem evens_range (f s : Int) : ∀ n, ∀ v ∈ evens f s n, -9223372036854775808 ≤ v ∧ v ≤ 9223372036854775807
  | 0, v, h => by simp [evens] at h
  | n + 1, v, h => by
    simp only [evens, List.mem_append, List.mem_singleton] at h
    rcases h with h | rfl
    · exact evens_range f s n v h
    · exact i64_range _
theorem i64_step (f s : Int) (k : Nat) : i64 (i64 (f + (k + 1 : Nat) * s) - i64 (f + k * s)) = i64 s := by
  obtain ⟨a, ha⟩ := i64_cong (f + (k + 1 : Nat) * s)
  obtain ⟨b, hb⟩ := i64_cong (f + k * s)
  obtain ⟨c, hc⟩ := i64_cong s
  have hr := i64_range s
  refine i64_of _ (i64 s) (a - b - c) ?_ hr.1 hr.2
  rw [ha, hb, hc]
  have e : ((k + 1 : Nat) : Int) * s = k * s + s := by push_cast; rw [Int.add_mul, Int.one_mul]
  rw [e]
  omega
theorem turn_even (f s : Int) (n k : Nat) (h1 : 1 ≤ k) (h : k + 1 < n) : turn (evens f s n) k = 0 := by
  unfold turn
  rw [evens_get f s n (k + 1) h, evens_get f s n k (by omega), evens_get f s n (k - 1) (by omega)]
  obtain ⟨j, rfl⟩ : ∃ j, k = j + 1 := ⟨k - 1, by omega⟩
  rw [Nat.add_sub_cancel, i64_step f s (j + 1), i64_step f s j, Int.sub_self]
  exact i64_of 0 0 0 (by omega) (by omega) (by omega)
theorem tt_even (f s : Int) (n : Nat) : ∀ k, k + 1 < n → (tt (evens f s n) (k + 1)).1 = 128 + k
  | 0, _ => by
    show 0 + wi 64 + wi 64 = 128 + 0
    rw [show wi 64 = 64 by decide]
  | k + 1, h => by
    show ((tch (turn (evens f s n) (k + 1))).foldl stp (tt (evens f s n) (k + 1))).1 = _
    rw [tch_len, turn_even f s n (k + 1) (by omega) h, tt_even f s n k (by omega)]
    show 128 + k + 1 + 0 = _
    omega
theorem tby_even0 (f s : Int) : (tby (evens f s 0)).length = 0 := rfl
theorem tby_even1 (f s : Int) : (tby (evens f s 1)).length = 8 := by
  rw [tby_len (by simp [evens])]
  show (0 + wi 64 + 7) / 8 = 8
  rw [show wi 64 = 64 by decide]
theorem tby_even (f s : Int) (n : Nat) (h : 2 ≤ n) : (tby (evens f s n)).length = 16 + (n - 2 + 7) / 8 := by
  rw [tby_len (by intro h0; have := congrArg List.length h0; rw [evens_len] at this; simp at this; omega), evens_len]
  obtain ⟨k, rfl⟩ : ∃ k, n = k + 2 := ⟨n - 2, by omega⟩
  rw [show k + 2 - 1 = k + 1 by omega, tt_even f s (k + 2) k (by omega)]
  omega
theorem i64_next (f s : Int) (k : Nat) : i64 (i64 (f + k * s) + s) = i64 (f + (k + 1 : Nat) * s) := by
  obtain ⟨b, hb⟩ := i64_cong (f + k * s)
  obtain ⟨a, ha⟩ := i64_cong (f + (k + 1 : Nat) * s)
  have hr := i64_range (f + (k + 1 : Nat) * s)
  refine i64_of _ _ (b - a) ?_ hr.1 hr.2
  rw [ha, hb]
  have e : ((k + 1 : Nat) : Int) * s = k * s + s := by push_cast; rw [Int.add_mul, Int.one_mul]
  rw [e]
  omega
theorem i64_id (f : Int) (h1 : -9223372036854775808 ≤ f) (h2 : f ≤ 9223372036854775807) : i64 f = f := i64_of f f 0 (by omega) h1 h2
end BitM
namespace Go.Proofs.YtocddhokjhfaaaaDoor
open Go.RowKit BitM
set_option linter.unusedVariables false

theorem modn201 (a : Int) : ∃ k : Nat, k ≤ 200 ∧ wrap64 ((IntKind.u64.wrap a).tmod 201) = (k : Int) := by
  have h0 : 0 ≤ IntKind.u64.wrap a := by rw [IntKind.wrap_u64]; omega
  rw [Int.tmod_eq_emod_of_nonneg h0]
  have h2 : 0 ≤ IntKind.u64.wrap a % 201 := Int.emod_nonneg _ (by omega)
  have h3 : IntKind.u64.wrap a % 201 < 201 := Int.emod_lt_of_pos _ (by omega)
  rw [IntWalk.wrap64_in (IntKind.u64.wrap a % 201) ⟨by omega, by omega⟩]
  exact ⟨(IntKind.u64.wrap a % 201).toNat, by omega, by omega⟩

set_option maxHeartbeats 1000000 in
set_option maxRecDepth 100000 in
theorem timesEven_walk (f : Int) (hf : (Lit.int .i64 f).wf = true) (s : Int) (hs : (Lit.int .i64 s).wf = true) (a : Int) (ha : (Lit.int .i64 a).wf = true) {w : World} (hk : KindsAt w) :
    Calls Tryd.prog 3 #[.int .i64 f, .int .i64 s, .int .i64 a] w fun e w' => e = .returned (.bool true) ∧ Below w.heap.size w w' := by
  have bf := bounds_i64 hf
  obtain ⟨n, hn2, hnn⟩ := modn201 a
  have hf0 : f = i64 (f + (0 : Nat) * s) := by
    rw [show ((0 : Nat) : Int) * s = 0 by simp, Int.add_zero]
    exact (i64_id f (by omega) (by omega)).symm
  have HF0 := Lib.hid hf0
  have HK := Lib.hid hk
  have HNN := Lib.hid hnn
  clear hf hs ha hk hnn hf0 bf
  go_enter Tryd.func3, Tryd.ntmps3
  go_upto_region 2 with (fail)
  rw [HNN.out]
  go_wp2_with fail
  go_loopw [8, 9, 10] (fun l at_ i wr => ∃ (k cl : Nat) (z : Int) (Al : Option Addr), k ≤ n ∧ i = .int .i64 k ∧ at_ = .int .i64 z ∧ Hid (z = i64 (f + k * s)) ∧ l = .slice Al k cl ∧ OwnT wr w.heap.size (.slice Al k cl) (evens f s k) ∧ Below w.heap.size w wr) (fun _ _ i _ => n - (intOf i).toNat)
  case atStart => exact ⟨0, 0, f, none, by omega, rfl, rfl, HF0, rfl, OwnV.nil _ _ _, Below.refl _ _⟩
  case round =>
    obtain ⟨k, cl, z, Al, hk, rfl, rfl, HZ, rfl, ho, hb⟩ := hrel
    by_cases hlt : k < n
    · obtain ⟨z2, hz2⟩ : ∃ z2, z2 = i64 (z + s) := ⟨_, rfl⟩
      have hz3 : wrap64 (z + s) = z2 := hz2.symm
      have HZ2 : Hid (z2 = i64 (f + (k + 1 : Nat) * s)) := Lib.hid (by rw [hz2, HZ.out]; exact i64_next f s k)
      have HDS : Hid ((evens f s k).map iv ++ [iv z] = (evens f s (k + 1)).map iv) := Lib.hid (by rw [HZ.out]; simp [evens])
      have HL3 : Hid (((evens f s (k + 1)).map iv).length = k + 1) := Lib.hid (by rw [List.length_map, evens_len])
      have hl1 : (((evens f s k).map iv).length + 1) * 8 ≤ 140737488355328 := by rw [List.length_map, evens_len]; omega
      have hl2 : ((evens f s k).map iv).length + 1 ≤ maxLen := by rw [List.length_map, evens_len]; unfold maxLen; omega
      clear hz2
      go_wp2_with (at_builtin; refine wpList_append_vz rfl (.tmp 27) (.tmp 29) 23 rfl Tryd.underlying23 _ 8 infoI64 rfl rfl (OwnV.alloc ho _) _ _ 1 [iv z] ((evens f s (k + 1)).map iv) rfl rfl (cellsAt_one _ _ _ _ rfl) (iv_one [z]) HDS.out hl1 hl2 (by have := hb.size; simp; omega) ?_; rw [HL3.out]; intro A3 c3 w7 ho7 hg7)
      go_roundw
      case rel =>
        have hbA : Below w.heap.size w (wr.alloc (.cells #[.int .i64 z] 2)) := hb.alloc hb.size _
        have hb7 := (OwnV.alloc ho _).belowGrown (B := w.heap.size) (by omega) (by have := hbA.size; exact this) hbA hg7
        exact ⟨k + 1, c3, z2, A3, by omega, by go_num, by rw [hz3], HZ2, rfl, ho7, hb7⟩
      case measure => simp [intOf]; omega
    · obtain rfl : k = n := by omega
      have hx0 : TimesAt wr Al (evens f s k) := OwnV.bytes ho
      obtain ⟨zs, hzs⟩ : ∃ zs, zs = evens f s k := ⟨_, rfl⟩
      rw [← hzs] at hx0
      have hnl : zs.length = k := by rw [hzs, evens_len]
      have hm : ∀ v ∈ zs, -9223372036854775808 ≤ v ∧ v ≤ 9223372036854775807 := by rw [hzs]; exact evens_range f s k
      obtain ⟨Z, hZ⟩ : ∃ Z, tby zs = Z := ⟨_, rfl⟩
      obtain ⟨sz, hsz⟩ : ∃ sz, sz = Z.length := ⟨_, rfl⟩
      have hsz4 : sz ≤ 4000 := by rw [hsz, ← hZ]; exact tby_le k zs (by omega) hn2
      have hs0 : k = 0 → sz = 0 := by intro h; rw [hsz, ← hZ, hzs, h]; rfl
      have hs1 : k = 1 → sz = 8 := by intro h; rw [hsz, ← hZ, hzs, h]; exact tby_even1 f s
      have hs2 : 2 ≤ k → sz = 16 + (k - 2 + 7) / 8 := by intro h; rw [hsz, ← hZ, hzs]; exact tby_even f s k h
      have HM := Lib.hid hm
      have HZ' := Lib.hid hZ
      have HSZ := Lib.hid hsz.symm
      have HNL := Lib.hid hnl
      have HX0 : Hid (Z = Z ++ []) := Lib.hid (List.append_nil _).symm
      clear hzs hnl hm hZ hsz ho
      by_cases hk0 : k = 0
      · have hsz0 := hs0 hk0
        have d1 : ((k : Int) == 1) = false := by rw [beq_eq_false_iff_ne]; omega
        have d2 : decide (1 < (k : Int)) = false := by rw [decide_eq_false_iff_not]; omega
        have q1 : ((sz : Int) == 0) = true := by rw [beq_iff_eq]; omega
        clear hs0 hs1 hs2 hk0 hsz0
        go_wp2_with (first
          | (go_at_call 8; with_reducible refine (timesPut2 Al k cl zs Z sz _ HZ'.out HSZ.out HNL.out hx0 hn2 (HK.out.below hb)).mono ?_; rintro e w5 ⟨A5, c5, rfl, hx5, hc5, hm5, hb5⟩; have hbw5 := hb.trans (hb5.mono hb.size))
          | (go_at_call 9; with_reducible refine (timesGet2 A5 sz c5 k k Z [] Z zs sz _ rfl HZ'.out HX0.out HSZ.out (by omega) hx5 hc5 hm5 HNL.out hn2 HM.out HSZ.out (HK.out.below hbw5)).mono ?_; rintro e w6 ⟨A6, c6, rfl, hx6, hb6⟩; have hbw6 := hbw5.trans (hb6.mono hbw5.size))
          | (go_at_call 10; refine (twputs_any _).mono ?_; rintro e w7 ⟨rfl, hb7⟩; have hbw7 := hbw6.trans (hb7.mono hbw6.size))
          | (go_at_call 11; refine (same_times _ _ k _ _ zs _ HNL.out (hx6.below hb7) (((hx0.below hb5).below hb6).below hb7) (by omega)).mono ?_; rintro e w8 ⟨rfl, hb8⟩))
        go_ret
        exact ⟨rfl, hbw7.trans (hb8.mono hbw7.size)⟩
      · by_cases hk1 : k = 1
        · have hsz0 := hs1 hk1
          have d1 : ((k : Int) == 1) = true := by rw [beq_iff_eq]; omega
          have d2 : decide (1 < (k : Int)) = false := by rw [decide_eq_false_iff_not]; omega
          have q1 : ((sz : Int) == 8) = true := by rw [beq_iff_eq]; omega
          clear hs0 hs1 hs2 hk0 hk1 hsz0
          go_wp2_with (first
            | (go_at_call 8; with_reducible refine (timesPut2 Al k cl zs Z sz _ HZ'.out HSZ.out HNL.out hx0 hn2 (HK.out.below hb)).mono ?_; rintro e w5 ⟨A5, c5, rfl, hx5, hc5, hm5, hb5⟩; have hbw5 := hb.trans (hb5.mono hb.size))
            | (go_at_call 9; with_reducible refine (timesGet2 A5 sz c5 k k Z [] Z zs sz _ rfl HZ'.out HX0.out HSZ.out (by omega) hx5 hc5 hm5 HNL.out hn2 HM.out HSZ.out (HK.out.below hbw5)).mono ?_; rintro e w6 ⟨A6, c6, rfl, hx6, hb6⟩; have hbw6 := hbw5.trans (hb6.mono hbw5.size))
            | (go_at_call 10; refine (twputs_any _).mono ?_; rintro e w7 ⟨rfl, hb7⟩; have hbw7 := hbw6.trans (hb7.mono hbw6.size))
            | (go_at_call 11; refine (same_times _ _ k _ _ zs _ HNL.out (hx6.below hb7) (((hx0.below hb5).below hb6).below hb7) (by omega)).mono ?_; rintro e w8 ⟨rfl, hb8⟩))
          go_ret
          exact ⟨rfl, hbw7.trans (hb8.mono hbw7.size)⟩
        · have hsz0 := hs2 (by omega)
          have d1 : ((k : Int) == 1) = false := by rw [beq_eq_false_iff_ne]; omega
          have d2 : decide (1 < (k : Int)) = true := by rw [decide_eq_true_iff]; omega
          have q1 : (16 : Int) + ((k : Int) - 2 + 7) / 8 = (sz : Int) := by omega
          clear hs0 hs1 hs2 hk1 hsz0
          go_wp2_with (first
            | (go_at_call 8; with_reducible refine (timesPut2 Al k cl zs Z sz _ HZ'.out HSZ.out HNL.out hx0 hn2 (HK.out.below hb)).mono ?_; rintro e w5 ⟨A5, c5, rfl, hx5, hc5, hm5, hb5⟩; have hbw5 := hb.trans (hb5.mono hb.size))
            | (go_at_call 9; with_reducible refine (timesGet2 A5 sz c5 k k Z [] Z zs sz _ rfl HZ'.out HX0.out HSZ.out (by omega) hx5 hc5 hm5 HNL.out hn2 HM.out HSZ.out (HK.out.below hbw5)).mono ?_; rintro e w6 ⟨A6, c6, rfl, hx6, hb6⟩; have hbw6 := hbw5.trans (hb6.mono hbw5.size))
            | (go_at_call 10; refine (twputs_any _).mono ?_; rintro e w7 ⟨rfl, hb7⟩; have hbw7 := hbw6.trans (hb7.mono hbw6.size))
            | (go_at_call 11; refine (same_times _ _ k _ _ zs _ HNL.out (hx6.below hb7) (((hx0.below hb5).below hb6).below hb7) (by omega)).mono ?_; rintro e w8 ⟨rfl, hb8⟩))
          go_ret
          exact ⟨rfl, hbw7.trans (hb8.mono hbw7.size)⟩
end Go.Proofs.YtocddhokjhfaaaaDoor

namespace Go.Proofs.YtocddhokjhfaaaaDoor
open Go Go.RowKit BitM
set_option maxRecDepth 100000
set_option linter.unusedVariables false

abbrev laidKinds : List (String × DataW Unit) := [("rick/times.kinds", Rows.laid_rick_times_kinds)]
theorem gKinds : Tryd.prog.globalNamed "rick/times.kinds" = some 0 := by kernel_rfl
theorem gKindsType : (Tryd.prog.globals[(0 : Nat)]?).map (·.type) = some 85 := by kernel_rfl
theorem cKind : Tryd.prog.cellsOf 84 = 2 := by kernel_rfl
theorem cKinds : Tryd.prog.cellsOf 85 = 8 := by kernel_rfl
theorem cInt : Tryd.prog.cellsOf 3 = 1 := by kernel_rfl
theorem kinds_met (os : Os) (args : Array Value) : laidMetH Tryd.prog laidKinds ((World.doorLaid Tryd.prog 23 os).forCall (fun _ _ => 0) ⟨#[], args, []⟩).memory :=
  laidMetH_of_parts3 (fuel := 8) (laidMet_of_run' 8 (by kernel_rfl) (by kernel_rfl)) (by kernel_rfl) (by kernel_rfl)

theorem kind_cells {H : Type} {enc : TypeId × Value → H} {w : World} {base : Nat} {sp : Nat → Bool} {held : Bool} {fuel : Nat} {cs : List Value} {a b : Int} {p : List MemPlace}
    (h : DataW.trod enc Tryd.prog w base sp held fuel 84 cs = some (.agg [.lit (.int .i64 a), .lit (.int .i64 b)], p)) : cs = [.int .i64 a, .int .i64 b] := by
  obtain ⟨y0, y1, n, hx, hl, h0, h1⟩ := Go.ChangeShapes.trod_struct2 Tryd.underlying84 h
  rw [cKind] at hl
  match cs, hl with
  | [c0, c1], _ =>
    simp only [cInt] at h0 h1
    obtain ⟨m0, e0, e0', _⟩ := DataW.trod_int Tryd.underlying3 h0
    obtain ⟨m1, e1, e1', _⟩ := DataW.trod_int Tryd.underlying3 h1
    subst e0' e1'
    simp at hx e0 e1
    obtain ⟨⟨rfl, rfl⟩, _⟩ := hx
    subst e0 e1
    rfl

theorem kinds_of_laid {W : World} (h : laidMetH Tryd.prog laidKinds W) : KindsAt W := by
  rw [MakeChecks.laidMetH_plain _ _ _ (by kernel_rfl)] at h
  obtain ⟨ps, ⟨g', t', cs, fuel, p, q, hg', ht', hvar, hd, _, _⟩, _⟩ := h
  obtain rfl := Option.some.inj (gKinds.symm.trans hg')
  obtain rfl := Option.some.inj (gKindsType.symm.trans ht')
  obtain ⟨xs, m, _, hx, hlen, hn, hel⟩ := DataW.trod_array Tryd.underlying85 hd
  rw [cKinds] at hlen
  rw [cKind] at hel
  have hx1 := (Prod.mk.inj hx).1
  unfold Rows.laid_rick_times_kinds at hx1
  have hcells : cs.toList = [.int .i64 0, .int .i64 0, .int .i64 1, .int .i64 7, .int .i64 2, .int .i64 9, .int .i64 3, .int .i64 12] := by
    obtain ⟨l⟩ := cs
    simp only at hlen hel ⊢
    match xs, hn, l, hlen with
    | [x0, x1, x2, x3], _, [c0, c1, c2, c3, c4, c5, c6, c7], _ =>
      simp only [List.map_cons, List.map_nil, DataW.agg.injEq, List.cons.injEq, and_true] at hx1
      obtain ⟨a0, a1, a2, a3⟩ := hx1
      have h0 := hel 0 (by decide)
      have h1 := hel 1 (by decide)
      have h2 := hel 2 (by decide)
      have h3 := hel 3 (by decide)
      have k0 := kind_cells (h0.trans (show some x0 = some (DataW.agg [.lit (.int .i64 0), .lit (.int .i64 0)], x0.2) by rw [a0]))
      have k1 := kind_cells (h1.trans (show some x1 = some (DataW.agg [.lit (.int .i64 1), .lit (.int .i64 7)], x1.2) by rw [a1]))
      have k2 := kind_cells (h2.trans (show some x2 = some (DataW.agg [.lit (.int .i64 2), .lit (.int .i64 9)], x2.2) by rw [a2]))
      have k3 := kind_cells (h3.trans (show some x3 = some (DataW.agg [.lit (.int .i64 3), .lit (.int .i64 12)], x3.2) by rw [a3]))
      simp at k0 k1 k2 k3
      obtain ⟨rfl, rfl⟩ := k0
      obtain ⟨rfl, rfl⟩ := k1
      obtain ⟨rfl, rfl⟩ := k2
      obtain ⟨rfl, rfl⟩ := k3
      rfl
  have hcs : cs = #[.int .i64 0, .int .i64 0, .int .i64 1, .int .i64 7, .int .i64 2, .int .i64 9, .int .i64 3, .int .i64 12] := by
    apply Array.toList_inj.1
    rw [hcells]
  subst hcs
  unfold World.var? at hvar
  rw [gKinds] at hvar
  simp only [Option.bind_some] at hvar
  unfold KindsAt
  split at hvar
  · rename_i cs' t' fr' hh
    injection hvar with hvar
    subst hvar
    exact ⟨_, _, hh⟩
  · cases hvar
end Go.Proofs.YtocddhokjhfaaaaDoor
