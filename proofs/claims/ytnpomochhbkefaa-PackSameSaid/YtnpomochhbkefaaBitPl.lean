/- The walk of BitsPlaces. -/
import Derived.Test.YtnpomochhbkefaaBitSt
import Derived.Deep.DeepCutAuto
namespace BitM
theorem place_zero (a n p : Nat) (h : p < a) : mid (2 ^ n) (a + 1 + n) p (p + 1) = 0 := by
  unfold mid
  have e : a + 1 + n - (p + 1) = n + (a - p) := by omega
  have h2 : (2 : Nat) ^ n < 2 ^ (n + (a - p)) := Nat.pow_lt_pow_right (by omega) (by omega)
  rw [e, Nat.div_eq_of_lt h2, Nat.zero_mod]
theorem place_one (a n : Nat) : mid (2 ^ n) (a + 1 + n) a (a + 1) = 1 := by
  unfold mid
  have e : a + 1 + n - (a + 1) = n := by omega
  rw [e, Nat.div_self (Nat.pow_pos (by omega)), Nat.add_sub_cancel_left]
theorem place_rest (a n : Nat) : mid (2 ^ n) (a + 1 + n) (a + 1) (a + 1 + n) = 0 := by
  unfold mid
  have e : a + 1 + n - (a + 1 + n) = 0 := by omega
  rw [e, Nat.pow_zero, Nat.div_one, Nat.add_sub_cancel_left, Nat.mod_self]
theorem place_byte (a n : Nat) : (bytesW (a + 1 + n) (2 ^ n)).getD (a / 8) 0 = UInt8.ofNat (2 ^ (7 - a % 8)) := by
  unfold bytesW
  rw [beN_getD _ _ _ (by omega), ← Nat.pow_add]
  congr 1
  rw [show (256 : Nat) = 2 ^ 8 from rfl, ← Nat.pow_mul, Nat.pow_div (by omega) (by omega)]
  congr 1
  omega
theorem place_lt (a n : Nat) : 2 ^ n < 2 ^ (a + 1 + n) := Nat.pow_lt_pow_right (by omega) (by omega)
end BitM
namespace Go.Proofs.Ytnpomochhbkefaa
open Go.RowKit BitM
set_option linter.unusedVariables false

theorem modn (a m : Int) (hm : 0 < m) (hm2 : m ≤ 1000) : ∃ k : Nat, (k : Int) < m ∧ wrap64 ((IntKind.u64.wrap a).tmod m) = (k : Int) := by
  have h0 : 0 ≤ IntKind.u64.wrap a := by rw [IntKind.wrap_u64]; omega
  rw [Int.tmod_eq_emod_of_nonneg h0]
  have h2 : 0 ≤ IntKind.u64.wrap a % m := Int.emod_nonneg _ (by omega)
  have h3 : IntKind.u64.wrap a % m < m := Int.emod_lt_of_pos _ (by omega)
  rw [IntWalk.wrap64_in (IntKind.u64.wrap a % m) ⟨by omega, by omega⟩]
  exact ⟨(IntKind.u64.wrap a % m).toNat, by omega, by omega⟩

set_option maxHeartbeats 1000000 in
set_option maxRecDepth 100000 in
theorem bitsPlaces_walk (a0 : Int) (h0 : (Lit.int .i64 a0).wf = true) (b0 : Int) (h1 : (Lit.int .i64 b0).wf = true) {w : World} :
    Calls Try.prog 5 #[.int .i64 a0, .int .i64 b0] w fun e w' => e = .returned (.bool true) ∧ Below w.heap.size w w' := by
  obtain ⟨A, hA, eA⟩ := modn a0 300 (by omega) (by omega)
  obtain ⟨B, hB, eB⟩ := modn b0 70 (by omega) (by omega)
  clear h0 h1
  go_enter Try.func5, Try.ntmps5
  have hb0 : Below w.heap.size w (w.alloc (.cells #[.pointer none, .int .u64 0, .int .i64 0] 36)) := (Below.refl _ _).alloc (Nat.le_refl _) _
  have hw0 := WSt.new w w.heap.size (Nat.le_refl _)
  go_wp2_with fail
  rw [eA, eB]
  clear eA eB
  go_loopw [8] (fun i wr => ∃ m : Nat, m ≤ A ∧ i = .int .i64 m ∧ WSt wr w.heap.size w.heap.size m 0 ∧ Below w.heap.size w wr) (fun i _ => A - (intOf i).toNat)
  case atStart => exact ⟨0, by omega, rfl, hw0, hb0⟩
  case round =>
    obtain ⟨m, hm, rfl, hwm, hbm⟩ := hrel
    by_cases hlt : m < A
    · go_wp2_with (go_at_call 16; with_reducible refine (wput_to w.heap.size w.heap.size m 0 (m + 1) 0 0 1 0 _ hwm rfl (by omega) 1 (by decide) rfl (by decide)).mono ?_; rintro e w1 ⟨rfl, hw1, hg1⟩; have hb1 := below_some hbm.size (Nat.le_refl _) hbm hg1)
      go_roundw
      case rel => exact ⟨m + 1, by omega, by go_num, hw1, hb1⟩
      case measure => simp [intOf]; omega
    · obtain rfl : m = A := by omega
      obtain ⟨n, hn⟩ : ∃ n, n = min B 64 := ⟨_, rfl⟩
      have hnwi : n = wi (B : Int) := by unfold wi; omega
      have hV1 : 0 * 2 ^ 1 + 1 % 2 ^ 1 = 1 := by decide
      have hV2 : 2 ^ n = 1 * 2 ^ n + 0 % 2 ^ n := by rw [Nat.zero_mod, Nat.one_mul, Nat.add_zero]
      have hn64 : n ≤ 64 := by omega
      obtain ⟨nb, hnb⟩ : ∃ nb, nb = (m + 1 + n + 7) / 8 := ⟨_, rfl⟩
      have HNB := Lib.hid hnb
      have HN := Lib.hid hn
      have HWI := Lib.hid hnwi
      have HV2 := Lib.hid hV2
      have hlen60 : m + 1 + n ≤ 60000000 := by omega
      clear hn hnwi hV2 hnb
      go_wp2_with (first
        | (go_at_call 16; with_reducible refine (wput_to w.heap.size w.heap.size m 0 (m + 1) 1 1 1 1 _ hwm rfl (by omega) 1 (by decide) rfl hV1.symm).mono ?_; rintro e w1 ⟨rfl, hw1, hg1⟩; have hb1 := below_some hbm.size (Nat.le_refl _) hbm hg1)
        | (go_at_call 16; with_reducible refine (wput_to w.heap.size w.heap.size (m + 1) 1 (m + 1 + n) (2 ^ n) 0 B 0 _ hw1 rfl (by omega) n HWI.out rfl HV2.out).mono ?_; rintro e w2 ⟨rfl, hw2, hg2⟩; have hb2 := below_some hb1.size (Nat.le_refl _) hb1 hg2))
      go_loud (with_reducible refine (wbytes_st w.heap.size w.heap.size (m + 1 + n) (2 ^ n) nb _ hw2 hlen60 HNB.out).mono ?_)
      rintro e w3 ⟨A3, c3, rfl, hx3, hc3, hm3, hk3, hb3⟩
      obtain ⟨xs, hxs⟩ : ∃ xs, xs = bytesW (m + 1 + n) (2 ^ n) := ⟨_, rfl⟩
      rw [← hxs] at hx3
      have hnb := HNB.out
      have hxl : xs.length = nb := by rw [hxs, length_bytesW, hnb]
      have hne : xs ≠ [] := by
        intro h
        rw [h] at hxl
        simp at hxl
        omega
      have hT : ∀ p q, q ≤ m + 1 + n → mid (valB xs) (8 * nb) p q = mid (2 ^ n) (m + 1 + n) p q := fun p q hq => by
        rw [hxs, hnb]
        exact mid_bytesW _ _ _ _ (place_lt m n) hq
      have hbyte : xs.getD (m / 8) 0 = UInt8.ofNat (2 ^ (7 - m % 8)) := by rw [hxs]; exact place_byte m n
      obtain ⟨b3, off3, rfl, hcell⟩ := hx3 hne
      have hb3w := hk3 _ rfl
      have hblt3 : b3 < w3.heap.size := World.block_lt_of_cell? w3 _ (hcell 0 (by omega))
      have hbase := hb2.trans (hb3.mono hb2.size)
      clear hcell hxs HV2 hw2 hwm hbm hb1 hg1 hw1 hg2
      have hnb1 : 1 ≤ nb := by omega
      have hnb2 : nb ≤ 100 := by omega
      have hn8 : m + 1 + n ≤ 8 * nb := by omega
      have hmb : m / 8 < nb := by omega
      clear hnb
      go_wp2_with (first
        | (go_at_call 24; with_reducible refine (new_any (some ⟨b3, off3, none⟩) nb c3 _).mono ?_; rintro e w4 ⟨rfl, hr4, hl4, hb4⟩))
      have hx4 := hx3.below hb4
      have hb34 := hbase.trans (hb4.mono hbase.size)
      have hne4 : b3 ≠ w3.heap.size := by omega
      have hr4c := hr4.cells.2.2.2.2.2.2
      go_loopw [11] (fun i wr => ∃ k : Nat, k ≤ m ∧ i = .int .i64 k ∧ RdAt wr w3.heap.size (some ⟨b3, off3, none⟩) nb c3 k false ∧ BytesAt wr (some ⟨b3, off3, none⟩) xs ∧ Below w.heap.size w wr) (fun i _ => m - (intOf i).toNat)
      case atStart => exact ⟨0, by omega, rfl, hr4, hx4, hb34⟩
      case round =>
        obtain ⟨k, hkm, rfl, hrk, hxk, hbk⟩ := hrel
        by_cases hlt2 : k < m
        · have hM := (hT k (k + 1) (by omega)).trans (place_zero m n k hlt2)
          have HM := Lib.hid hM
          clear hM
          go_wp2_with (go_at_call 19; with_reducible refine (take_lit w3.heap.size b3 off3 nb c3 k (k + 1) 1 xs 0 0 _ rfl hrk hxk hxl (by omega) rfl (by omega) HM.out hne4).mono ?_; rintro e w5 ⟨rfl, hr5, hg5⟩; have hx5 := bytes_beside hxk hg5 hne4; have hb5 := below_some hbk.size hbase.size hbk hg5)
          go_roundw
          case rel => exact ⟨k + 1, by omega, by go_num, hr5, hx5, hb5⟩
          case measure => simp [intOf]; omega
        · obtain rfl : m = k := by omega
          go_wp2_with fail
          rw [show min (B : Int) 64 = (n : Int) by have := HN.out; omega]
          refine region_overB w3.heap.size (Nat.le_of_lt hrk.cells.2.2.2.2.2.2) [([], 0), ([1, 2, 3, 4, 5, 6, 7, 8, 9, 10, 11, 12, 13, 14, 15, 16, 17, 18, 19, 20, 21, 22, 23, 24, 25], 26), ([27, 28, 29, 30, 31], 32), ([33, 34, 35, 36], 37)] [38, 39, 40] (by kernel_rfl) (by kernel_rfl) ?_
          rintro wd hbd
          rw [wpBl_cons]
          simp only [List.map_cons, List.map_nil, opAt, List.getElem?_toArray, List.getElem?_cons_zero, List.getElem?_cons_succ, Option.getD_some]
          refine wpQuiet_nil ?_
          go_wp2_with (go_at_call 17; refine (bputs_any _).mono ?_; rintro e w6 ⟨rfl, hb6⟩)
          refine ⟨⟨⟨_, (hbd.trans (hb6.mono hbd.size)).mono (Nat.le_of_lt hrk.cells.2.2.2.2.2.2)⟩, rfl⟩, ?_⟩
          rw [wpBl_cons]
          simp only [List.map_cons, List.map_nil, opAt, List.getElem?_toArray, List.getElem?_cons_zero, List.getElem?_cons_succ, Option.getD_some]
          have g1 : ((nb : Int) == ((m : Int) + 1 + n + 7) / 8) = true := by
            have := HNB.out
            simp only [beq_iff_eq]
            omega
          obtain ⟨q, hq⟩ : ∃ q, q = m / 8 := ⟨_, rfl⟩
          obtain ⟨r, hr⟩ : ∃ r, r = m % 8 := ⟨_, rfl⟩
          have g2 : (m : Int) / 8 = (q : Int) := by omega
          have g3 : (m : Int) % 8 = (r : Int) := by omega
          have hr8 : r < 8 := by omega
          rw [← hq] at hmb hbyte
          rw [← hr] at hbyte
          obtain ⟨b', off', he, hcell⟩ := hxk hne
          injection he with he
          injection he with he1 he2
          subst he1 he2
          have cq := hcell q (by omega)
          have hxq : xs[q]'(by omega) = UInt8.ofNat (2 ^ (7 - r)) := by
            rw [← hbyte, List.getD_eq_getElem?_getD, List.getElem?_eq_getElem (by omega), Option.getD_some]
          have hp8 : 2 ^ (7 - r) < 256 := by
            have : (2 : Nat) ^ (7 - r) ≤ 2 ^ 7 := Nat.pow_le_pow_right (by omega) (by omega)
            omega
          obtain ⟨v, hv⟩ : ∃ v, v = 2 ^ (7 - r) := ⟨_, rfl⟩
          rw [hxq, ← hv, UInt8.toNat_ofNat_of_lt' (by rw [hv]; exact hp8)] at cq
          have kx : ∀ y : SubW w3.heap.size wr, y.at_.cell? ⟨b3, off3 + q, none⟩ = some (.int .u8 (v : Int)) := fun y => (World.cell?_of_block (a := ⟨b3, off3 + q, none⟩) (y.ok_.block _ hblt3)).trans cq
          have g4 : ((v : Int) == 2 ^ (7 - r) % 256) = true := by
            have e : (2 : Int) ^ (7 - r) = ((2 ^ (7 - r) : Nat) : Int) := by push_cast; rfl
            rw [beq_iff_eq, e, ← hv]
            omega
          have HQ := Lib.hid hq
          have HR := Lib.hid hr
          have HV := Lib.hid hv
          clear hq hr hv hbyte hcell hxq
          repeat (go_big_quiet_step (fail))
          refine wpQuiet_nil ?_
          have M1 := Lib.hid ((hT m (m + 1) (by omega)).trans (place_one m n))
          have M2 := Lib.hid ((hT (m + 1) (m + 1 + n) (by omega)).trans (place_rest m n))
          have hbd6 := hbd.trans (hb6.mono hbd.size)
          have hr6 := hrk.below hbd6
          have hx6 := hxk.below hbd6
          have hw6 := hbk.trans (hbd6.mono hbk.size)
          have hs6 : w3.heap.size ≤ w6.heap.size := by have := hbd6.size; have := hrk.cells.2.2.2.2.2.2; omega
          have hc6 : Below w3.heap.size wr w6 := hbd6.mono (Nat.le_of_lt hrk.cells.2.2.2.2.2.2)
          have hnw : m + 1 + n = m + 1 + wi (n : Int) := by unfold wi; omega
          have HNW := Lib.hid hnw
          clear hnw hT
          go_wp2_with (go_at_call 19; with_reducible refine (take_lit w3.heap.size b3 off3 nb c3 m (m + 1) 1 xs 1 1 _ rfl hr6 hx6 hxl (by omega) rfl (by omega) M1.out hne4).mono ?_; rintro e w7 ⟨rfl, hr7, hg7⟩)
          have hc7 := below_some hs6 (Nat.le_refl _) hc6 hg7
          have hx7 := bytes_beside hx6 hg7 hne4
          have hw7 := below_some hw6.size hbase.size hw6 hg7
          have hs7 := Nat.le_trans hs6 hg7.size
          refine ⟨⟨⟨_, hc7⟩, rfl⟩, ?_⟩
          rw [wpBl_cons]
          simp only [List.map_cons, List.map_nil, opAt, List.getElem?_toArray, List.getElem?_cons_zero, List.getElem?_cons_succ, Option.getD_some]
          repeat (go_big_quiet_step (fail))
          refine wpQuiet_nil ?_
          go_wp2_with (go_at_call 19; with_reducible refine (take_lit w3.heap.size b3 off3 nb c3 (m + 1) (m + 1 + n) n xs 0 0 _ rfl hr7 hx7 hxl (by omega) HNW.out hn8 M2.out hne4).mono ?_; rintro e w8 ⟨rfl, hr8, hg8⟩)
          have hc8 := below_some hs7 (Nat.le_refl _) hc7 hg8
          have hw8 := below_some hw7.size hbase.size hw7 hg8
          refine ⟨⟨⟨_, hc8⟩, rfl⟩, ?_⟩
          rw [wpBl_cons]
          simp only [List.map_cons, List.map_nil, opAt, List.getElem?_toArray, List.getElem?_cons_zero, List.getElem?_cons_succ, Option.getD_some]
          repeat (go_big_quiet_step (fail))
          refine wpQuiet_nil ?_
          go_wp2_with (go_at_call 20; with_reducible refine (bad_any w3.heap.size _ nb c3 (m + 1 + n) false _ hr8).mono ?_; rintro e w9 ⟨rfl, rfl⟩)
          refine ⟨⟨⟨_, hc8⟩, rfl⟩, ?_⟩
          rw [wpBl_nil]
          simp only [List.map_cons, List.map_nil, opAt, List.getElem?_toArray, List.getElem?_cons_zero, List.getElem?_cons_succ, Option.getD_some]
          repeat (go_big_quiet_step (fail))
          refine wpQuiet_nil ?_
          go_wp2_with fail
          go_ret
          exact ⟨rfl, hw8⟩
end Go.Proofs.Ytnpomochhbkefaa
