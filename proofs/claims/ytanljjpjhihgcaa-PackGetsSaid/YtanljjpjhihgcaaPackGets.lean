/- The walk of PackGets. -/
import Derived.Test.YtanljjpjhihgcaaPkRef2
import Derived.Test.YtanljjpjhihgcaaRowKit
import Derived.Deep.DeepCutAuto
namespace BitM
theorem unpk_len (X : List UInt8) (n : Nat) (hn : n ≤ 200) : (unpk X n).1.length ≤ 200 ∧ (unpk X n).2.1 ≤ 4000 ∧ (unpk X n).2.2 ≤ 4 := by
  unfold unpk
  by_cases h0 : n = 0
  · simp [h0]
  rw [if_neg h0]
  by_cases h9 : X.length < 9
  · simp [h9]
  rw [if_neg h9]
  simp only
  by_cases h64 : 64 < mid (valB X) (8 * X.length) 64 72
  · simp [h64]
  rw [if_neg h64]
  by_cases hs : X.length < 9 + (n * mid (valB X) (8 * X.length) 64 72 + 7) / 8
  · simp [hs]
  rw [if_neg hs]
  have h1 := Nat.mul_le_mul hn (show mid (valB X) (8 * X.length) 64 72 ≤ 64 by omega)
  split
  · refine ⟨by simp only [numsAt_length]; exact hn, ?_, by simp⟩
    simp only
    omega
  · simp
end BitM
namespace Go.Proofs.Ytanljjpjhihgcaa
open Go.RowKit BitM RunM
set_option linter.unusedVariables false

theorem packGet_any' (A : Option Addr) (len c n : Nat) (X : List UInt8) (ns : List Nat) (nl k er : Nat) (w : World) (hnl : ns.length = nl) (hX : BytesAt w A X) (hlen : X.length = len) (hl : len ≤ 1000000) (hc : len ≤ c) (hcm : c ≤ maxLen) (hn2 : n ≤ 200) (hu : unpk X n = (ns, k, er)) :
    Calls Try.prog 4 #[.slice A len c, .int .i64 (n : Int)] w fun e w' => ∃ A' c', e = .returned (.tuple #[.slice A' nl c', .int .i64 (k : Int), .int .i64 (er : Int)]) ∧ NatsAt w' A' ns ∧ Below w.heap.size w w' := by
  subst hnl
  exact packGet_any A len c n X w hX hlen hl hc hcm hn2 ns k er hu
theorem refGet_any' (A : Option Addr) (len c n : Nat) (X : List UInt8) (ns : List Nat) (nl k er : Nat) (w : World) (hnl : ns.length = nl) (hX : BytesAt w A X) (hlen : X.length = len) (hl : len ≤ 1000000) (hc : len ≤ c) (hcm : c ≤ maxLen) (hn2 : n ≤ 200) (hu : unpk X n = (ns, k, er)) :
    Calls Try.prog 6 #[.slice A len c, .int .i64 (n : Int)] w fun e w' => ∃ A' c', e = .returned (.tuple #[.slice A' nl c', .int .i64 (k : Int), .int .i64 (er : Int)]) ∧ NatsAt w' A' ns ∧ Below w.heap.size w w' := by
  subst hnl
  exact refGet_any A len c n X w hX hlen hl hc hcm hn2 ns k er hu

set_option maxHeartbeats 1000000 in
set_option maxRecDepth 100000 in
theorem packGets_walk (A0 : Option Addr) (cap0 : Nat) (xs0 : List UInt8) {w : World} (hx0 : BytesAt w A0 xs0) (hlc0 : xs0.length ≤ cap0) (hcm0 : cap0 ≤ maxLen) (z : Int) (wz : (Lit.int .i64 z).wf = true) :
    Calls Try.prog 3 #[.slice A0 xs0.length cap0, .int .i64 z] w fun e w' => e = .returned (.bool true) ∧ Below w.heap.size w w' := by
  obtain ⟨xs, hxs⟩ : ∃ xs, xs = xs0.take 200 := ⟨_, rfl⟩
  obtain ⟨len, hln⟩ : ∃ len, len = xs.length := ⟨_, rfl⟩
  have hyl : len = min xs0.length 200 := by rw [hln, hxs, List.length_take, Nat.min_comm]
  have hmin : min (xs0.length : Int) 200 = (len : Int) := by omega
  have hn200 : len ≤ 200 := by omega
  have hnx : len ≤ xs0.length := by omega
  have hxn : BytesAt w A0 xs := by rw [hxs]; exact hx0.take 200
  have HLN := Lib.hid hln.symm
  have HXN := Lib.hid hxn
  have hcap : len ≤ cap0 := by omega
  have HCM := Lib.hid hcm0
  unfold maxLen at hcm0
  clear hxs hyl hx0 hln hxn
  by_cases hz : z < 0 ∨ 200 < z
  · have hzd := hz
    have HZ := Lib.hid hz
    clear hz
    rcases hzd with h | h
    · go_enter Try.func3, Try.ntmps3
      go_wp2_with (first
        | (go_at_call 4; with_reducible refine (packGet_arg A0 len cap0 z _ HZ.out).mono ?_; rintro e w1 ⟨rfl, rfl⟩)
        | (go_at_call 5; refine (pkputs_any _).mono ?_; rintro e w2 ⟨rfl, hb2⟩))
      go_ret
      exact ⟨rfl, hb2⟩
    · have h0 : decide (z < 0) = false := by rw [decide_eq_false_iff_not]; omega
      go_enter Try.func3, Try.ntmps3
      go_wp2_with (first
        | (go_at_call 4; with_reducible refine (packGet_arg A0 len cap0 z _ HZ.out).mono ?_; rintro e w1 ⟨rfl, rfl⟩)
        | (go_at_call 5; refine (pkputs_any _).mono ?_; rintro e w2 ⟨rfl, hb2⟩))
      go_ret
      exact ⟨rfl, hb2⟩
  · obtain ⟨n, rfl⟩ : ∃ n : Nat, z = (n : Int) := ⟨z.toNat, by omega⟩
    have hn2 : n ≤ 200 := by omega
    obtain ⟨ns, k, er, hu⟩ : ∃ ns k er, unpk xs n = (ns, k, er) := ⟨_, _, _, rfl⟩
    have hul := unpk_len xs n hn2
    rw [hu] at hul
    simp only at hul
    obtain ⟨hu1, hu2, hu3⟩ := hul
    obtain ⟨nl, hnl⟩ : ∃ nl, nl = ns.length := ⟨_, rfl⟩
    have HNL := Lib.hid hnl.symm
    have HU := Lib.hid hu
    have hnl2 : nl ≤ 200 := by omega
    clear hz hu hu1 hnl
    go_enter Try.func3, Try.ntmps3
    go_wp2_with (first
      | (go_at_call 4; with_reducible refine (packGet_any' A0 len cap0 n xs ns nl k er _ HNL.out HXN.out HLN.out (by omega) hcap HCM.out hn2 HU.out).mono ?_; rintro e w1 ⟨A1, c1, rfl, hx1, hb1⟩)
      | (go_at_call 6; with_reducible refine (refGet_any' A0 len cap0 n xs ns nl k er _ HNL.out (HXN.out.below hb1) HLN.out (by omega) hcap HCM.out hn2 HU.out).mono ?_; rintro e w2 ⟨A2, c2, rfl, hx2, hb2⟩)
      | (go_at_call 5; refine (pkputs_any _).mono ?_; rintro e w3 ⟨rfl, hb3⟩)
      | (go_at_call 7; refine (same_nats _ _ _ _ _ ns _ HNL.out ((hx1.below hb2).below hb3) (hx2.below hb3) (by omega)).mono ?_; rintro e w4 ⟨rfl, hb4⟩))
    go_ret
    have s1 := hb1.size
    have s2 := hb2.size
    have s3 := hb3.size
    exact ⟨rfl, ((hb1.trans (hb2.mono s1)).trans (hb3.mono (by omega))).trans (hb4.mono (by omega))⟩
end Go.Proofs.Ytanljjpjhihgcaa
