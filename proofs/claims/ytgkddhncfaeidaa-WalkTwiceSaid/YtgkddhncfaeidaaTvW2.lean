/- WalkTwice: its walk. -/
import Derived.Test.YtgkddhncfaeidaaPart40
set_option linter.unusedSimpArgs false
set_option linter.unusedVariables false
namespace Go.Proofs.Ytgkddhncfaeidaa
open Go.RowKit Go.ChangeShapes Go.WideShapes Go.ChangeAt CrcM PageM
set_option linter.unusedVariables false

theorem modW (a : Int) (m : Nat) (h0 : 0 < m) (hm : m ≤ 1000000) : ∃ k : Nat, k < m ∧ wrap64 ((IntKind.u64.wrap a).tmod (m : Int)) = (k : Int) := by
  obtain ⟨u, hu⟩ : ∃ u : Nat, IntKind.u64.wrap a = (u : Int) := ⟨(IntKind.u64.wrap a).toNat, by
    have h1 : 0 ≤ IntKind.u64.wrap a := by rw [IntKind.wrap_u64]; omega
    omega⟩
  rw [hu]
  refine ⟨u % m, Nat.mod_lt _ h0, ?_⟩
  have h2 := Nat.mod_lt u h0
  have h3 : (u : Int).tmod (m : Int) = ((u % m : Nat) : Int) := rfl
  rw [h3]
  unfold wrap64
  omega
theorem cntR_mono (hh : Nat) {i j : Nat} (h : i ≤ j) : cntR hh i ≤ cntR hh j := by
  unfold cntR
  by_cases h0 : i = 0
  · rw [if_pos h0]; exact Nat.zero_le _
  · rw [if_neg h0, if_neg (by omega)]
    exact ND_mono _ h

set_option maxRecDepth 100000 in
set_option maxHeartbeats 8000000 in
theorem walkTwice_walk (n a b : Int) (w : World) :
    Calls Try.prog 8 #[.int .i64 n, .int .i64 a, .int .i64 b] w fun e w' => e = .returned (.bool true) ∧ Below w.heap.size w w' := by
  obtain ⟨k, hk, hke⟩ := modW n 150 (by decide) (by decide)
  obtain ⟨x, hx, hxe⟩ := modW a 160 (by decide) (by decide)
  obtain ⟨y, hy, hye⟩ := modW b 160 (by decide) (by decide)
  have HK := Lib.hid hk
  have HX := Lib.hid hx
  have HY := Lib.hid hy
  have hke' : wrap64 ((IntKind.u64.wrap n).tmod 150) = (k : Int) := hke
  have hxe' : wrap64 ((IntKind.u64.wrap a).tmod 160) = (x : Int) := hxe
  have hye' : wrap64 ((IntKind.u64.wrap b).tmod 160) = (y : Int) := hye
  clear hke hxe hye hk hx hy
  go_enter Try.func8, Try.ntmps8
  --BODY
  go_upto_region 2 with fail
  rw [hke']
  clear hke'
  go_upto_region 4 with (go_at_call 23; refine (walks_any w).mono ?_; rintro e w0 ⟨rfl, hb⟩; have B0 := Lib.hid hb; clear hb)
  have HBU : Hid (Calls Try.prog 24 #[.int .i64 (k : Int), .int .i64 2] w0 fun e w' => ∃ (gv a hh : Nat) (A : Option Addr) (c : Nat), e = .returned (.tuple #[.pointer (some ⟨gv, 0, none⟩), .agg #[.int .i64 (a : Int), .int .i64 (hh : Int)], .slice A k c, .bool true]) ∧
      TreeAt w' gv a hh (ents k 2) ∧ w'.ownsRow w0.heap.size 51 8 (.slice A k c) k ((ents k 2).flatMap enC) ∧ Below w0.heap.size w0 w') := Lib.hid (build_any k 2 (by have := HK.out; omega) (by decide) w0)
  go_upto_region 5 with (go_at_call 24; refine HBU.out.mono ?_; rintro e w1 ⟨gv, ra, hh, A, c, rfl, ht, hr, hb⟩; have T1 := Lib.hid ht; have R1 := Lib.hid hr; have B1 := Lib.hid hb; clear ht hr hb HBU)
  obtain ⟨w2, hw2⟩ : ∃ w2, w2 = w1.alloc (.cells #[.int .i64 (ra : Int), .int .i64 (hh : Int)] 63) := ⟨_, rfl⟩
  have G2 : Hid (w2.heap[w1.heap.size]? = some (.cells #[.int .i64 (ra : Int), .int .i64 (hh : Int)] 63 (0, 0))) := Lib.hid (by rw [hw2]; exact heap_alloc_new _ _)
  have B12 := Lib.hid (alloc_bel hw2)
  rw [← hw2]
  clear hw2
  have T2 := Lib.hid (T1.out.below B12.out)
  go_upto_region 8 with fail
  rw [hxe', hye']
  clear hxe' hye'
  obtain ⟨z, hz⟩ : ∃ z, z = x + y := ⟨_, rfl⟩
  obtain ⟨P, hP⟩ : ∃ P, P = min x k := ⟨_, rfl⟩
  obtain ⟨Q, hQ⟩ : ∃ Q, Q = min z k := ⟨_, rfl⟩
  obtain ⟨cp, hcp⟩ : ∃ cp, cp = cntR hh P := ⟨_, rfl⟩
  obtain ⟨cq, hcq⟩ : ∃ cq, cq = cntR hh Q := ⟨_, rfl⟩
  have HZ := Lib.hid hz
  have HP := Lib.hid hP
  have HQ := Lib.hid hQ
  have HPQ : Hid (P ≤ Q) := Lib.hid (by rw [hP, hQ, hz]; omega)
  have HQK : Hid (Q ≤ k) := Lib.hid (by rw [hQ]; exact Nat.min_le_right _ _)
  have HCC : Hid (cp ≤ cq) := Lib.hid (by rw [hcp, hcq]; exact cntR_mono hh HPQ.out)
  have HTX : Hid (∀ W, TreeAt W gv ra hh (ents k 2) → Calls Try.prog 25 #[.pointer (some ⟨gv, 0, none⟩), .agg #[.int .i64 (ra : Int), .int .i64 (hh : Int)], .int .i64 (x : Int)] W fun e w' => ∃ A' c', e = .returned (.tuple #[.slice A' P c', .int .i64 (cp : Int), .int .i64 0]) ∧ w'.ownsRow W.heap.size 77 8 (.slice A' P c') P ((ents P 2).flatMap enC) ∧ Below W.heap.size W w') := Lib.hid (fun W hW => by
    refine (take_tree gv ra hh (ents k 2) (by rw [ents_len]; have := HK.out; omega) x (by have := HX.out; omega) W hW).mono ?_
    rintro e w' ⟨⟨A', c', h1, h2⟩, h3⟩
    rw [ents_len, ← hP, ← hcp] at h1
    rw [ents_len, ents_take, ← hP] at h2
    exact ⟨A', c', h1, h2, h3⟩)
  have HTZ : Hid (∀ W, TreeAt W gv ra hh (ents k 2) → Calls Try.prog 25 #[.pointer (some ⟨gv, 0, none⟩), .agg #[.int .i64 (ra : Int), .int .i64 (hh : Int)], .int .i64 (z : Int)] W fun e w' => ∃ A' c', e = .returned (.tuple #[.slice A' Q c', .int .i64 (cq : Int), .int .i64 0]) ∧ w'.ownsRow W.heap.size 77 8 (.slice A' Q c') Q ((ents Q 2).flatMap enC) ∧ Below W.heap.size W w') := Lib.hid (fun W hW => by
    refine (take_tree gv ra hh (ents k 2) (by rw [ents_len]; have := HK.out; omega) z (by rw [hz]; have := HX.out; have := HY.out; omega) W hW).mono ?_
    rintro e w' ⟨⟨A', c', h1, h2⟩, h3⟩
    rw [ents_len, ← hQ, ← hcq] at h1
    rw [ents_len, ents_take, ← hQ] at h2
    exact ⟨A', c', h1, h2, h3⟩)
  have wz : wrap64 ((x : Int) + (y : Int)) = (z : Int) := by rw [hz]; have := HX.out; have := HY.out; unfold wrap64; omega
  clear hz hP hQ hcp hcq
  go_upto_region 9 with (first
    | (refine wpList_load_row rfl 63 (.tmp 9) rfl w1.heap.size rfl 63 _ (0, 0) _ G2.out Try.underlying63 rfl (by kernel_rfl) ?_)
    | (go_at_call 25; refine (HTX.out _ T2.out).mono ?_; rintro e w3 ⟨A3, c3, rfl, hr, hb⟩; have R3 := Lib.hid hr; have B23 := Lib.hid hb; clear hr hb))
  have G3 := Lib.hid (row_stays G2.out B23.out)
  have T3 := Lib.hid (T2.out.below B23.out)
  go_upto_region 10 with (first
    | (refine wpList_load_row rfl 63 (.tmp 9) rfl w1.heap.size rfl 63 _ (0, 0) _ G3.out Try.underlying63 rfl (by kernel_rfl) ?_)
    | (go_at_call 25; refine (HTZ.out _ T3.out).mono ?_; rintro e w4 ⟨A4, c4, rfl, hr, hb⟩; have R4 := Lib.hid hr; have B34 := Lib.hid hb; clear hr hb))
  have G4 := Lib.hid (row_stays G3.out B34.out)
  have T4 := Lib.hid (T3.out.below B34.out)
  go_upto_region 11 with (first
    | (refine wpList_load_row rfl 63 (.tmp 9) rfl w1.heap.size rfl 63 _ (0, 0) _ G4.out Try.underlying63 rfl (by kernel_rfl) ?_)
    | (go_at_call 25; refine (HTX.out _ T4.out).mono ?_; rintro e w5 ⟨A5, c5, rfl, hr, hb⟩; have R5 := Lib.hid hr; have B45 := Lib.hid hb; clear hr hb))
  have B35 : Hid (Below w3.heap.size w3 w5) := Lib.hid (B34.out.trans (B45.out.mono B34.out.size))
  have B25 : Hid (Below w2.heap.size w2 w5) := Lib.hid (B23.out.trans (B35.out.mono B23.out.size))
  have B15 : Hid (Below w1.heap.size w1 w5) := Lib.hid (B12.out.trans (B25.out.mono B12.out.size))
  have BW5 : Hid (Below w.heap.size w w5) := Lib.hid (B0.out.trans ((B1.out.trans (B15.out.mono B1.out.size)).mono B0.out.size))
  have E3 : Hid (EnAt w5 A3 (ents P 2)) := Lib.hid (EnAt.of_row (row_below R3.out B35.out))
  have E4 : Hid (EnAt w5 A4 (ents Q 2)) := Lib.hid (EnAt.of_row (row_below R4.out B45.out))
  have E5 : Hid (EnAt w5 A5 (ents P 2)) := Lib.hid (EnAt.of_row R5.out)
  have E1 : Hid (EnAt w5 A (ents k 2)) := Lib.hid (EnAt.of_row (row_below R1.out B15.out))
  have hm1 : min (x : Int) (k : Int) = (P : Int) := by rw [HP.out]; omega
  have hm2 : min (z : Int) (k : Int) = (Q : Int) := by rw [HQ.out]; omega
  have hl1 : decide ((cq : Int) < (cp : Int)) = false := by have := HCC.out; simp; omega
  have HPM : Hid (P ≤ 1000000) := Lib.hid (by have := HPQ.out; have := HQK.out; have := HK.out; omega)
  have HQM : Hid (Q ≤ 1000000) := Lib.hid (by have := HQK.out; have := HK.out; omega)
  have E3x := Lib.hid E3.out
  go_upto_region 13 with (first
    | (have hq := E3; clear hq; go_at_call 27; refine (back_list (ents P 2) A3 P c3 w5 (ents_len P 2) HPM.out E3.out).mono ?_; rintro e w6 ⟨A6, c6, rfl, hr, hb⟩; have R6 := Lib.hid hr; have B56 := Lib.hid hb; have E56 := Lib.hid (E5.out.below hb); clear hr hb E3)
    | (have hq := E56; clear hq; go_at_call 27; refine (back_list (ents P 2) A5 P c5 w6 (ents_len P 2) HPM.out E56.out).mono ?_; rintro e w7 ⟨A7, c7, rfl, hr, hb⟩; have R7 := Lib.hid hr; have B67 := Lib.hid hb; clear hr hb E56)
    | (have hq := R7; clear hq; go_at_call 26; refine (same_list (ents P 2) A6 A7 P c6 c7 w7 (ents_len P 2) HPM.out (EnAt.of_row (row_below R6.out B67.out)) (EnAt.of_row R7.out)).mono ?_; rintro e w8 ⟨rfl, hb⟩; have B78 := Lib.hid hb; clear hb))
  have B58 : Hid (Below w5.heap.size w5 w8) := Lib.hid (B56.out.trans ((B67.out.trans (B78.out.mono B67.out.size)).mono B56.out.size))
  have BW8 : Hid (Below w.heap.size w w8) := Lib.hid (BW5.out.trans (B58.out.mono BW5.out.size))
  have F3 := Lib.hid (E3x.out.below B58.out)
  have F4 := Lib.hid (E4.out.below B58.out)
  have F1 := Lib.hid (E1.out.below B58.out)
  clear E3x E4 E5 E1 R6 R7 B56 B67 B78 hm1 hm2 hl1 wz
  obtain ⟨hcA, hcAm⟩ := row_cap R1.out
  obtain ⟨hc4, hc4m⟩ := row_cap R4.out
  have hcAm' : c ≤ 9223372036854775807 := hcAm
  have hc4m' : c4 ≤ 9223372036854775807 := hc4m
  have hs1 : (P : Int) ≤ (c4 : Int) := by have := HPQ.out; omega
  have hs2 : (Q : Int) ≤ (c : Int) := by have := HQK.out; omega
  clear hcAm hc4m
  refine region_waysT 17 w8.heap.size (Nat.le_refl _) (.one [0, 1, 2, 3, 5] 4 (.one [] 6 (.one [] 7 (.one [8, 9, 11, 12, 13, 14] 10 (.one [] 15 (.done [16])))))) (by kernel_rfl) (by kernel_rfl) ?_
  rintro wd hbd
  have BD := Lib.hid hbd
  clear hbd
  rw [wpWaysT_one]
  try simp only [List.map_cons, List.map_nil, opAt, List.getElem?_toArray, List.getElem?_cons_zero, List.getElem?_cons_succ, Option.getD_some]
  repeat (first
    | go_big_quiet_step (fail))
  refine wpQuiet_nil ?_
  go_wp2_with (go_at_call 27; refine (back_list (ents P 2) A4 P c4 wd (ents_len P 2) HPM.out (by
    have h1 := (F4.out.below BD.out).take P
    rw [ents_take, Nat.min_eq_left HPQ.out] at h1
    exact h1)).mono ?_; rintro e x1 ⟨A6, c6, rfl, hr, hb⟩; have R6 := Lib.hid hr; have N1 := Lib.hid (BD.out.trans (hb.mono BD.out.size)); clear hr hb)
  refine ⟨⟨⟨_, N1.out⟩, rfl⟩, ?_⟩
  try simp only [Act.put, List.setIfInBounds_toArray, List.set_cons_zero, List.set_cons_succ]
  rw [wpWaysT_one]
  try simp only [List.map_cons, List.map_nil, opAt, List.getElem?_toArray, List.getElem?_cons_zero, List.getElem?_cons_succ, Option.getD_some]
  refine wpQuiet_nil ?_
  go_wp2_with (go_at_call 27; refine (back_list (ents P 2) A3 P c3 x1 (ents_len P 2) HPM.out (F3.out.below N1.out)).mono ?_; rintro e x2 ⟨A7, c7, rfl, hr, hb⟩; have R7 := Lib.hid hr; have S6 := Lib.hid (row_below R6.out hb); have N2 := Lib.hid (N1.out.trans (hb.mono N1.out.size)); clear hr hb)
  refine ⟨⟨⟨_, N2.out⟩, rfl⟩, ?_⟩
  try simp only [Act.put, List.setIfInBounds_toArray, List.set_cons_zero, List.set_cons_succ]
  rw [wpWaysT_one]
  try simp only [List.map_cons, List.map_nil, opAt, List.getElem?_toArray, List.getElem?_cons_zero, List.getElem?_cons_succ, Option.getD_some]
  refine wpQuiet_nil ?_
  go_wp2_with (go_at_call 26; refine (same_list (ents P 2) A6 A7 P c6 c7 x2 (ents_len P 2) HPM.out (EnAt.of_row S6.out) (EnAt.of_row R7.out)).mono ?_; rintro e x3 ⟨rfl, hb⟩; have N3 := Lib.hid (N2.out.trans (hb.mono N2.out.size)); clear hb)
  refine ⟨⟨⟨_, N3.out⟩, rfl⟩, ?_⟩
  try simp only [Act.put, List.setIfInBounds_toArray, List.set_cons_zero, List.set_cons_succ]
  rw [wpWaysT_one]
  try simp only [List.map_cons, List.map_nil, opAt, List.getElem?_toArray, List.getElem?_cons_zero, List.getElem?_cons_succ, Option.getD_some]
  repeat (first
    | go_big_quiet_step (fail))
  refine wpQuiet_nil ?_
  go_wp2_with (go_at_call 27; refine (back_list (ents Q 2) A4 Q c4 x3 (ents_len Q 2) HQM.out (F4.out.below N3.out)).mono ?_; rintro e x4 ⟨A8, c8, rfl, hr, hb⟩; have R8 := Lib.hid hr; have N4 := Lib.hid (N3.out.trans (hb.mono N3.out.size)); clear hr hb)
  refine ⟨⟨⟨_, N4.out⟩, rfl⟩, ?_⟩
  try simp only [Act.put, List.setIfInBounds_toArray, List.set_cons_zero, List.set_cons_succ]
  rw [wpWaysT_one]
  try simp only [List.map_cons, List.map_nil, opAt, List.getElem?_toArray, List.getElem?_cons_zero, List.getElem?_cons_succ, Option.getD_some]
  refine wpQuiet_nil ?_
  go_wp2_with (go_at_call 26; refine (same_list (ents Q 2) A8 A Q c8 c x4 (ents_len Q 2) HQM.out (EnAt.of_row R8.out) (by
    have h1 := (F1.out.below N4.out).take Q
    rw [ents_take, Nat.min_eq_left HQK.out] at h1
    exact h1)).mono ?_; rintro e x5 ⟨rfl, hb⟩; have N5 := Lib.hid (N4.out.trans (hb.mono N4.out.size)); clear hb)
  refine ⟨⟨⟨_, N5.out⟩, rfl⟩, ?_⟩
  try simp only [Act.put, List.setIfInBounds_toArray, List.set_cons_zero, List.set_cons_succ]
  rw [wpWaysT_done]
  simp only [List.map_cons, List.map_nil, List.drop_succ_cons, List.drop_zero, opAt, List.getElem?_toArray, List.getElem?_cons_zero, List.getElem?_cons_succ, Option.getD_some]
  repeat (first
    | go_big_quiet_step (fail))
  refine wpQuiet_nil ?_
  go_wp2_with fail
  go_ret
  exact ⟨rfl, BW8.out.trans (N5.out.mono BW8.out.size)⟩
end Go.Proofs.Ytgkddhncfaeidaa
