/- The walk of XorsGets. -/
import Derived.Test.YtanljjpjhihgcaaDoorXoLaws
import Derived.Test.YtanljjpjhihgcaaDoorRowKit
namespace Go.Proofs.YtanljjpjhihgcaaDoor
open Go.RowKit BitM RunM
set_option linter.unusedVariables false

theorem xorsGet_all (A : Option Addr) (len c n : Nat) (X : List UInt8) (w : World) (hX : BytesAt w A X) (hlen : X.length = len) (hl : len ≤ 1000000) (hc : len ≤ c) (hcm : c ≤ maxLen) (hn2 : n ≤ 200) (ht : TabAt w) :
    Calls Tryd.prog 18 #[.slice A len c, .int .i64 (n : Int)] w fun e w' => Below w.heap.size w w' ∧ (e = .returned (.tuple #[.slice none 0 0, .int .i64 0, .int .i64 3]) ∨ e = .returned (.tuple #[.slice none 0 0, .int .i64 0, .int .i64 4]) ∨
      ∃ A' c' ns sz, e = .returned (.tuple #[.slice A' n c', .int .i64 ((sz : Nat) : Int), .int .i64 0]) ∧ NatsAt w' A' ns ∧ n ≤ c' ∧ c' ≤ maxLen ∧ ns.length = n ∧ (∀ v ∈ ns, v < 18446744073709551616) ∧ (xb ns).length = sz ∧ sz ≤ len ∧ xb ns = X.take sz) := by
  rcases Nat.eq_zero_or_pos n with h | h
  · subst h
    refine (xorsGet_zero A len c w).mono ?_
    rintro e w' ⟨rfl, rfl⟩
    exact ⟨Below.refl _ _, .inr (.inr ⟨none, 0, [], 0, rfl, fun h => absurd rfl h, Nat.le_refl _, by unfold maxLen; omega, rfl, fun v hv => absurd hv (by simp), rfl, Nat.zero_le _, rfl⟩)⟩
  · exact xorsGet_weak A len c n X w hX hlen hl hc hcm h hn2 ht

set_option maxHeartbeats 1000000 in
set_option maxRecDepth 100000 in
theorem xorsGets_walk (A0 : Option Addr) (cap0 : Nat) (xs0 : List UInt8) {w : World} (hx0 : BytesAt w A0 xs0) (hlc0 : xs0.length ≤ cap0) (hcm0 : cap0 ≤ maxLen) (z : Int) (wz : (Lit.int .i64 z).wf = true) (ht : TabAt w) :
    Calls Tryd.prog 6 #[.slice A0 xs0.length cap0, .int .i64 z] w fun e w' => e = .returned (.bool true) ∧ Below w.heap.size w w' := by
  obtain ⟨xs, hxs⟩ : ∃ xs, xs = xs0.take 200 := ⟨_, rfl⟩
  obtain ⟨len, hln⟩ : ∃ len, len = xs.length := ⟨_, rfl⟩
  have hyl : len = min xs0.length 200 := by rw [hln, hxs, List.length_take, Nat.min_comm]
  have hmin : min (xs0.length : Int) 200 = (len : Int) := by omega
  have hn200 : len ≤ 200 := by omega
  have hnx : len ≤ xs0.length := by omega
  have hxn : BytesAt w A0 xs := by rw [hxs]; exact hx0.take 200
  have HLN := Lib.hid hln.symm
  have HXN := Lib.hid hxn
  have hcap : len ≤ cap0 := by omega
  have HCM := Lib.hid hcm0
  have HT := Lib.hid ht
  unfold maxLen at hcm0
  clear hxs hyl hx0 hln hxn ht
  by_cases hz : z < 0 ∨ 200 < z
  · have hzd := hz
    have HZ := Lib.hid hz
    clear hz
    rcases hzd with h | h
    · go_enter Tryd.func6, Tryd.ntmps6
      go_wp2_with (first
        | (go_at_call 18; with_reducible refine (xorsGet_arg A0 len cap0 z _ HZ.out).mono ?_; rintro e w1 ⟨rfl, rfl⟩)
        | (go_at_call 19; refine (xoputs_any _ HT.out).mono ?_; rintro e w2 ⟨rfl, hb2⟩))
      go_ret
      exact ⟨rfl, hb2⟩
    · have h0 : decide (z < 0) = false := by rw [decide_eq_false_iff_not]; omega
      go_enter Tryd.func6, Tryd.ntmps6
      go_wp2_with (first
        | (go_at_call 18; with_reducible refine (xorsGet_arg A0 len cap0 z _ HZ.out).mono ?_; rintro e w1 ⟨rfl, rfl⟩)
        | (go_at_call 19; refine (xoputs_any _ HT.out).mono ?_; rintro e w2 ⟨rfl, hb2⟩))
      go_ret
      exact ⟨rfl, hb2⟩
  · obtain ⟨n, rfl⟩ : ∃ n : Nat, z = (n : Int) := ⟨z.toNat, by omega⟩
    have hn2 : n ≤ 200 := by omega
    clear hz
    go_enter Tryd.func6, Tryd.ntmps6
    go_wp2_with (first
      | (go_at_call 18; with_reducible refine (xorsGet_all A0 len cap0 n xs _ HXN.out HLN.out (by omega) hcap HCM.out hn2 HT.out).mono ?_; rintro e w1 ⟨hb1, rfl | rfl | ⟨A1, c1, ns, sz, rfl, hx1, hc1, hm1, hnl, hnm, hzl, hsz, hxe⟩⟩)
      | (go_at_call 19; refine (xoputs_any _ (HT.out.below hb1)).mono ?_; rintro e w2 ⟨rfl, hb2⟩))
    · go_ret
      exact ⟨rfl, hb1.trans (hb2.mono hb1.size)⟩
    · go_ret
      exact ⟨rfl, hb1.trans (hb2.mono hb1.size)⟩
    · obtain ⟨Y, hY⟩ : ∃ Y, xs.take sz = Y := ⟨_, rfl⟩
      rw [hY] at hxe
      have hYl : Y.length = sz := by rw [← hxe, hzl]
      have HXE := Lib.hid hxe
      have HYL := Lib.hid hYl
      have HNL := Lib.hid hnl
      have HNM := Lib.hid hnm
      have hxq := HXN.out.take sz
      rw [hY] at hxq
      have HXQ := Lib.hid hxq
      have hcs : sz ≤ cap0 := by omega
      clear hxe hYl hnl hnm hzl hY hxq
      refine (refXorPut_z A1 n c1 ns Y sz _ HXE.out HYL.out HNL.out hx1 hn2 HNM.out).mono ?_
      rintro e w2 ⟨A2, c2, rfl, hx2, hb2⟩
      go_wp2_with fail
      have hbw2 := hb1.trans (hb2.mono hb1.size)
      have hcA : ∀ y : SubW w2.heap.size w2, (convert 24 9 (.slice A2 sz c2)).run Tryd.prog y.at_ = .ok (.string ⟨Y.toArray⟩) y.at_ := fun y => text_n A2 sz c2 Y HYL.out (hx2.below y.ok_)
      have hcB : ∀ y : SubW w2.heap.size w2, (convert 24 9 (.slice A0 sz cap0)).run Tryd.prog y.at_ = .ok (.string ⟨Y.toArray⟩) y.at_ := fun y => text_n A0 sz cap0 Y HYL.out ((HXQ.out.below hbw2).below y.ok_)
      have hle : decide ((sz : Int) ≤ (len : Int)) = true := by rw [decide_eq_true_iff]; omega
      refine region_over [([], 0)] [1, 2, 3, 4, 5, 6, 7, 8, 9, 10, 11, 12, 13, 14, 15, 16, 17, 18, 19, 20, 21, 22, 23, 24, 25, 26, 27, 28] (by kernel_rfl) (by kernel_rfl) ?_
      rintro wd hbd
      rw [wpBl_cons]
      simp only [List.map_cons, List.map_nil, opAt, List.getElem?_toArray, List.getElem?_cons_zero, List.getElem?_cons_succ, Option.getD_some]
      refine wpQuiet_nil ?_
      go_wp2_with (go_at_call 19; refine (xoputs_any _ ((HT.out.below hbw2).below hbd)).mono ?_; rintro e w5 ⟨rfl, hb5⟩)
      have hbd5 := hbd.trans (hb5.mono hbd.size)
      refine ⟨⟨⟨_, hbd5⟩, rfl⟩, ?_⟩
      try simp only [Act.put, List.setIfInBounds_toArray, List.set_cons_zero, List.set_cons_succ]
      rw [wpBl_nil]
      simp only [List.map_cons, List.map_nil, opAt, List.getElem?_toArray, List.getElem?_cons_zero, List.getElem?_cons_succ, Option.getD_some]
      repeat (go_big_quiet_step (fail))
      refine wpQuiet_nil ?_
      go_wp2_with fail
      go_ret
      exact ⟨rfl, hbw2.trans (hbd5.mono hbw2.size)⟩
end Go.Proofs.YtanljjpjhihgcaaDoor
