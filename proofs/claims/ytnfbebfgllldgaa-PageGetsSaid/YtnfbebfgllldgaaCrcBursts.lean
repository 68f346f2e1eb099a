/- For all bytes, every place and every number of 32 bits the statement CrcBursts answers true: of bytes of which up to 32 bits side by side were turned the sum is another one. No condition. -/
import Derived.Test.YtnfbebfgllldgaaCrcSums
import Derived.StillTailTactics
namespace Go.Proofs.Ytnfbebfgllldgaa
open Go.RowKit CrcM
set_option linter.unusedVariables false

theorem burst_place (a : Int) (n : Nat) (h4 : 4 ≤ n) (hn : n ≤ 104) : ∃ k : Nat, wrap64 ((IntKind.u64.wrap a).tmod (8 * (n : Int) - 31)) = (k : Int) ∧ k + 32 ≤ 8 * n := by
  have h0 : 0 ≤ IntKind.u64.wrap a := by rw [IntKind.wrap_u64]; omega
  have h1 : (IntKind.u64.wrap a).tmod (8 * (n : Int) - 31) = IntKind.u64.wrap a % (8 * (n : Int) - 31) := Int.tmod_eq_emod_of_nonneg h0
  have h2 : 0 ≤ IntKind.u64.wrap a % (8 * (n : Int) - 31) := Int.emod_nonneg _ (by omega)
  have h3 : IntKind.u64.wrap a % (8 * (n : Int) - 31) < 8 * (n : Int) - 31 := Int.emod_lt_of_pos _ (by omega)
  refine ⟨(IntKind.u64.wrap a % (8 * (n : Int) - 31)).toNat, ?_, by omega⟩
  rw [h1, IntWalk.wrap64_in _ ⟨by omega, by omega⟩]
  omega

theorem flip_val (v : UInt8) (m : Nat) : bits BinOp.xor IntKind.u8 (v.toNat : Int) (2 ^ (m % 8) % 256) = ((v ^^^ UInt8.ofNat (2 ^ (m % 8))).toNat : Int) := by
  have hp := pow_lt_256 (Nat.mod_lt m (show 0 < 8 by omega))
  have e : ((2 : Int) ^ (m % 8) % 256) = ((2 ^ (m % 8) : Nat) : Int) := by
    rw [Int.emod_eq_of_lt (Int.pow_nonneg (by omega)) (by have : ((2 ^ (m % 8) : Nat) : Int) < 256 := by omega
                                                          simpa using this)]
    simp
  have hv := v.toNat_lt
  rw [e, u8_xor_nat _ _ (by omega) hp, UInt8.toNat_xor, UInt8.toNat_ofNat', Nat.mod_eq_of_lt hp]

theorem bit_test (t j : Nat) (ht : t < 4294967296) (b : Bool) (h : (bits BinOp.and IntKind.u32 ((t : Int) / 2 ^ j) 1 == 1) = b) : t.testBit j = b := by
  have e : ((t : Int) / 2 ^ j) = ((t / 2 ^ j : Nat) : Int) := by simp
  have hl : t / 2 ^ j < 4294967296 := Nat.lt_of_le_of_lt (Nat.div_le_self _ _) ht
  rw [e, and1_u32 _ hl] at h
  rw [Nat.testBit_eq_decide_div_mod_eq, ← h]
  rcases Nat.mod_two_eq_zero_or_one (t / 2 ^ j) with h2 | h2 <;> rw [h2] <;> rfl

set_option maxHeartbeats 1000000 in
set_option maxRecDepth 100000 in
theorem crcBursts_walk (A : Option Addr) (cap : Nat) (xs : List UInt8) {w : World} (hx : BytesAt w A xs) (hlc : xs.length ≤ cap) (hcm : cap ≤ maxLen) (a : Int) (ha : (Lit.int .i64 a).wf = true) (c : Int) (hc : (Lit.int .u32 c).wf = true) :
    Calls Try.prog 8 #[.slice A xs.length cap, .int .i64 a, .int .u32 c] w fun e w' => e = .returned (.bool true) ∧ Below w.heap.size w w' := by
  obtain ⟨t, ht, rfl⟩ : ∃ t : Nat, t < 4294967296 ∧ c = (t : Int) := by
    have := bounds_u32 hc
    exact ⟨c.toNat, by omega, by omega⟩
  obtain ⟨zs, hzs⟩ : ∃ zs, zs = xs.take 100 := ⟨_, rfl⟩
  have hzl : zs.length = min xs.length 100 := by rw [hzs, List.length_take, Nat.min_comm]
  have hz1 : zs.length ≤ 100 := by omega
  have hzx : zs.length ≤ xs.length := by omega
  have hmin : min (xs.length : Int) 100 = (zs.length : Int) := by omega
  unfold maxLen at hcm
  have hby : BytesAt (w.alloc (.cells #[] 5)) A zs := by rw [hzs]; exact (hx.take 100).below ((Below.refl _ _).alloc (Nat.le_refl _) _)
  have hown := OwnB.new w 5 [] w.heap.size (Nat.le_refl _) (by simp)
  obtain ⟨ys, hys⟩ : ∃ ys, ys = zs ++ [1, 2, 3, 4] := ⟨_, rfl⟩
  have hyl : ys.length = zs.length + 4 := by rw [hys]; simp
  have hy0 : 4 ≤ ys.length := by omega
  have hy1 : ys.length ≤ 104 := by omega
  obtain ⟨k, hk, hkl⟩ := burst_place a ys.length hy0 hy1
  have HZL := Lib.hid hzl
  have HZS := Lib.hid hzs
  have HYS := Lib.hid hys
  have HYL := Lib.hid hyl
  clear hzl hzs hys hyl
  go_enter Try.func8, Try.ntmps8
  go_wp2_with (first
    | (at_builtin; refine wpList_append_bytes rfl (.tmp 11) (.tmp 16) 27 rfl Try.underlying27 info5 rfl hown _ _ rfl hby (by simp; omega) (by simp) ?_; intro g1 c1 w1 ho1 hg1 _; simp only [List.nil_append] at ho1 ⊢)
    | (at_builtin; refine wpList_append_bytes rfl (.tmp 17) (.tmp 18) 27 rfl Try.underlying27 info5 rfl (ho1.alloc _) _ _ rfl (bytesAt_block [1, 2, 3, 4] (heap_alloc_new _ _)) (by simp; omega) (by have := hg1.size; simp at *; omega) ?_; intro g c2 w2 ho2 hg2 _; rw [← HYS.out] at ho2 ⊢)
    | (go_at_call 36; refine (new_any _).mono ?_; rintro e w3 ⟨rfl, hb3⟩)
    | (refine wpList_store_row rfl 64 (.tmp 7) (.tmp 20) rfl w3.heap.size tab rfl rfl 64 Try.zeroCells64 (heap_alloc_new _ _) (by rw [size_tab]; exact info64) (by rw [size_tab, zero64, size_tabC]) (tab_one _) ?_; rw [World.setRow_alloc_new])
    | (refine wpList_load_row rfl 64 (.tmp 7) rfl w3.heap.size rfl 64 tab (0, 0) _ (heap_alloc_new _ _) Try.underlying64 rfl (by rw [size_tab]; exact info64) ?_)
    | (go_at_call 38; refine (sum_len _ _ _ ys _ rfl ((ho2.below hb3 ho2.lt).alloc _).bytes (by omega)).mono ?_; rintro e w4 ⟨rfl, hb4⟩))
  rw [hk]
  have HK := Lib.hid hk
  clear hk
  obtain ⟨_, hc2l, hc2m, _⟩ := ho2.parts
  unfold maxLen at hc2m
  have hs2 : w.heap.size + 1 ≤ w2.heap.size := by have := hg1.size; have := hg2.size; simp at *; omega
  have hb1 : Below w.heap.size w w1 := ((Below.refl _ _).alloc (Nat.le_refl _) _).grown hg1 (by simp) (fun k hk => by injection hk with hk; omega)
  have hb2 : Below w.heap.size w w2 := (hb1.alloc hb1.size _).grown hg2 (by have := hb1.size; simp; omega) (fun k hk => by injection hk with hk; have := ho1.parts.1; omega)
  have hbW : Below w.heap.size w (w3.alloc (.cells tab 64)) := (hb2.trans (hb3.mono hb2.size)).alloc ((hb2.trans (hb3.mono hb2.size)).size) _
  have hb0 : Below w.heap.size w w4 := hbW.trans (hb4.mono hbW.size)
  have hg4 : w4.heap[w3.heap.size]? = some (.cells tab 64 (0, 0)) := (hb4.block _ (by simp)).trans (heap_alloc_new _ _)
  have ho4 : OwnB w4 w.heap.size g c2 5 ys := ((ho2.below hb3 ho2.lt).alloc _).below hb4 (by have := ho2.lt; have := hb3.size; simp; omega)
  have hgne : g ≠ w3.heap.size := by have := ho2.lt; have := hb3.size; omega
  go_loopw [10] (fun i wr => ∃ j : Nat, j ≤ 32 ∧ i = .int .i64 j ∧ Below w.heap.size w wr ∧ Hid (OwnB wr w.heap.size g c2 5 (flips ys k t j)) ∧ Hid (wr.heap[w3.heap.size]? = some (.cells tab 64 (0, 0)))) (fun i _ => 32 - (intOf i).toNat)
  case atStart => exact ⟨0, by omega, rfl, hb0, ho4, hg4⟩
  case round =>
    obtain ⟨j, hj, rfl, hbr, hor, hgr⟩ := hrel
    by_cases hlt : j < 32
    · have hfl : (flips ys k t j).length = ys.length := length_flips ys k t j
      have hq : (k + j) / 8 < (flips ys k t j).length := by omega
      have hcell := hor.out.cellAt ((k + j) / 8) hq
      have hfr := hor.out.frozenAt ((k + j) / 8)
      obtain ⟨v, hv⟩ : ∃ v : UInt8, v = (flips ys k t j).getD ((k + j) / 8) 0 := ⟨_, rfl⟩
      rw [← hv] at hcell
      have HV := Lib.hid hv
      have HF := Lib.hid hfl
      clear hv hfl
      have q0 : (0 : Int) ≤ ((k : Int) + (j : Int)) / 8 := by omega
      have q1 : ((k : Int) + (j : Int)) / 8 < (ys.length : Int) := by have := HF.out; omega
      go_wp2_with fail
      · go_region
        go_wp2_with fail
        go_roundw
        case rel =>
          have hbit : t.testBit j = true := bit_test t j ht true (by assumption)
          have hst := hor.out.stored ((k + j) / 8) hq (v ^^^ UInt8.ofNat (2 ^ ((k + j) % 8)))
          rw [flip_val]
          refine ⟨j + 1, by omega, by go_num, (hbr.setCell (by exact ho2.parts.1) _).drew, ?_, ?_⟩
          · simp only [flips, hbit, if_true]
            unfold flipAt
            rw [← HV.out]
            exact hst.drew
          · exact (heap_setCell_other wr ⟨g, (k + j) / 8, none⟩ w3.heap.size _ (Ne.symm hgne)).trans hgr.out
        case measure => simp [intOf]; omega
      · have hbit : t.testBit j = false := bit_test t j ht false (by assumption)
        go_roundw
        case rel =>
          refine ⟨j + 1, by omega, by go_num, hbr, ?_, hgr⟩
          simp only [flips, hbit, if_false, Bool.false_eq_true]
          exact hor
        case measure => simp [intOf]; omega
    · obtain rfl : j = 32 := by omega
      have hfl : (flips ys k t 32).length = ys.length := length_flips ys k t 32
      have htold := flipsN_told ys k t ht hkl
      have heq : ((sumN (flips ys k t 32) : Int) == (sumN ys : Int)) = ((t : Int) == 0) := by
        rw [Bool.eq_iff_iff, beq_iff_eq, beq_iff_eq]
        constructor
        · intro h
          have := htold.1 (by omega)
          omega
        · intro h
          have := htold.2 (by omega)
          omega
      have HF := Lib.hid hfl
      clear hfl htold hcm hlc hx hmin hby hown hc ho1 hg1 hg2 hb1 hb2 hb0 hg4 ho4
      go_wp2_with (first
        | (go_at_call 37; refine (sums_any _).mono ?_; rintro e w5 ⟨rfl, hb5⟩))
      refine wp_load_row 64 (.tmp 7) rfl w3.heap.size rfl 64 tab (0, 0) _ ((hb5.block _ (Array.getElem?_eq_some_iff.1 hgr.out).1).trans hgr.out) Try.underlying64 rfl (by rw [size_tab]; exact info64) ?_
      simp only [Act.put, List.setIfInBounds_toArray, List.set_cons_zero, List.set_cons_succ]
      go_wp2_with (first
        | (go_at_call 38; refine (sum_len _ _ _ (flips ys k t 32) _ HF.out ((hor.out.below hb5 hor.out.lt)).bytes (by omega)).mono ?_; rintro e w6 ⟨rfl, hb6⟩))
      go_ret
      exact ⟨rfl, (hbr.trans (hb5.mono hbr.size)).trans (hb6.mono ((hbr.trans (hb5.mono hbr.size)).size))⟩
end Go.Proofs.Ytnfbebfgllldgaa
