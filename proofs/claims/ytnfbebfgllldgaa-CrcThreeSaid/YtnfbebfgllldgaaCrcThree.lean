/- For all three texts the statement CrcThree answers true: the sum of all three, by exclusive or, is that of their sums. No condition. -/
import Derived.Test.YtnfbebfgllldgaaCrcSums
import Derived.StillTailTactics
namespace Go.Proofs.Ytnfbebfgllldgaa
open Go.RowKit CrcM
set_option linter.unusedVariables false

/-- The first k bytes stand, noughts behind. -/
def part3 (x : List UInt8) (k : Nat) : List UInt8 := x.take k ++ List.replicate (x.length - k) 0
theorem length_part3 (x : List UInt8) (k : Nat) (hk : k ≤ x.length) : (part3 x k).length = x.length := by
  simp [part3]; omega
theorem part3_zero (x : List UInt8) : part3 x 0 = List.replicate x.length 0 := by simp [part3]
theorem part3_all (x : List UInt8) : part3 x x.length = x := by simp [part3]
theorem part3_set (x : List UInt8) (k : Nat) (hk : k < x.length) : ((part3 x k).map bv).toArray.setIfInBounds k (bv (x.getD k 0)) = ((part3 x (k + 1)).map bv).toArray := by
  rw [List.setIfInBounds_toArray]
  congr 1
  apply List.ext_getElem?
  intro i
  rw [List.getElem?_set]
  have h1 : (List.take k x).length = k := by simp; omega
  have h2 : (List.take (k + 1) x).length = k + 1 := by simp; omega
  by_cases hi : k = i
  · subst hi
    have hl : k < (List.map bv (part3 x k)).length := by rw [List.length_map, length_part3 x k (by omega)]; exact hk
    rw [if_pos rfl, if_pos hl]
    unfold part3
    rw [List.getElem?_map, List.getElem?_append_left (by omega), List.getElem?_take]
    simp [hk]
  · rw [if_neg hi, List.getElem?_map, List.getElem?_map]
    congr 1
    unfold part3
    by_cases hlt : i < k
    · rw [List.getElem?_append_left (by omega), List.getElem?_append_left (by omega), List.getElem?_take, List.getElem?_take, if_pos hlt, if_pos (by omega)]
    · rw [List.getElem?_append_right (by omega), List.getElem?_append_right (by omega), h1, h2, List.getElem?_replicate, List.getElem?_replicate]
      by_cases h3 : i < x.length
      · rw [if_pos (by omega), if_pos (by omega)]
      · rw [if_neg (by omega), if_neg (by omega)]

theorem min4 (a b c : Nat) : ∃ n : Nat, n ≤ a ∧ n ≤ b ∧ n ≤ c ∧ n ≤ 100 ∧ ∀ w : World, (Builtin.min_ #[3, 3, 3, 3] 3 #[.int .i64 a, .int .i64 b, .int .i64 c, .int .i64 100]).run Try.prog w = .ok (.int .i64 n) w := by
  refine ⟨min (min (min a b) c) 100, by omega, by omega, by omega, by omega, fun w => ?_⟩
  have e1 : (if b < a then (b : Int) else (a : Int)) = ((min a b : Nat) : Int) := by split <;> omega
  have e2 : (if (c : Int) < ((min a b : Nat) : Int) then (c : Int) else ((min a b : Nat) : Int)) = ((min (min a b) c : Nat) : Int) := by split <;> omega
  have e3 : (if (100 : Int) < ((min (min a b) c : Nat) : Int) then (100 : Int) else ((min (min a b) c : Nat) : Int)) = ((min (min (min a b) c) 100 : Nat) : Int) := by split <;> omega
  rw [← e3, ← e2, ← e1]
  simp [Builtin.min_, Builtin.min2]

theorem xor3_val (a b c : UInt8) : bits .xor .u8 (bits .xor .u8 (a.toNat : Int) (b.toNat : Int)) (c.toNat : Int) = ((a ^^^ b ^^^ c).toNat : Int) := by
  have ha := a.toNat_lt
  have hb := b.toNat_lt
  have hc := c.toNat_lt
  rw [u8_xor_nat _ _ (by omega) (by omega), u8_xor_nat _ _ (Nat.xor_lt_two_pow (n := 8) (by omega) (by omega)) (by omega), UInt8.toNat_xor, UInt8.toNat_xor]

theorem made_part3 (x : List UInt8) (n : Nat) (h : x.length = n) : madeCells #[Value.int .u8 0] n = ((part3 x 0).map bv).toArray := by
  have := toList_madeCells_one (Value.int .u8 0) n
  rw [part3_zero, h, List.map_replicate, show bv 0 = Value.int .u8 0 from rfl, ← this]

set_option maxRecDepth 100000 in
theorem crcThree_walk (A1 : Option Addr) (cap1 : Nat) (xs1 : List UInt8) {w : World} (hx1 : BytesAt w A1 xs1) (hl1 : xs1.length ≤ cap1) (hm1 : cap1 ≤ maxLen)
    (A2 : Option Addr) (cap2 : Nat) (xs2 : List UInt8) (hx2 : BytesAt w A2 xs2) (hl2 : xs2.length ≤ cap2) (hm2 : cap2 ≤ maxLen)
    (A3 : Option Addr) (cap3 : Nat) (xs3 : List UInt8) (hx3 : BytesAt w A3 xs3) (hl3 : xs3.length ≤ cap3) (hm3 : cap3 ≤ maxLen) :
    Calls Try.prog 10 #[.slice A1 xs1.length cap1, .slice A2 xs2.length cap2, .slice A3 xs3.length cap3] w fun e w' => e = .returned (.bool true) ∧ Below w.heap.size w w' := by
  obtain ⟨n, n1, n2, n3, n100, hmin⟩ := min4 xs1.length xs2.length xs3.length
  obtain ⟨x, ex⟩ : ∃ x, x = xor3 (xs1.take n) (xs2.take n) (xs3.take n) := ⟨_, rfl⟩
  have hl2' : (xs2.take n).length = (xs1.take n).length := by simp; omega
  have hl3' : (xs3.take n).length = (xs1.take n).length := by simp; omega
  have hxl : x.length = n := by rw [ex, length_xor3 _ _ _ hl2' hl3']; simp; omega
  have hsum : sumN x = sumN (xs1.take n) ^^^ sumN (xs2.take n) ^^^ sumN (xs3.take n) := by rw [ex, sumN_xor3 _ _ _ hl2' hl3']
  have hmk := fun W => run_make_row' (P := Try.prog) 27 5 (.int .u8 0) 1 Try.underlying27 info5 rfl .i64 .i64 n (by omega) (by omega) W
  unfold maxLen at hm1 hm2 hm3
  have HS := Lib.hid hsum
  have HX := Lib.hid ex
  have HL := Lib.hid hxl
  clear hsum ex hxl hl2' hl3'
  go_enter Try.func10, Try.ntmps10
  go_wp2_with (first
    | (go_at_call 36; refine (new_any _).mono ?_; rintro e w2 ⟨rfl, hb2⟩)
    | (refine wpList_store_row rfl 64 (.tmp 8) (.tmp 18) rfl w2.heap.size tab rfl rfl 64 Try.zeroCells64 (heap_alloc_new _ _) (by rw [size_tab]; exact info64) (by rw [size_tab, zero64, size_tabC]) (tab_one _) ?_; rw [World.setRow_alloc_new]))
  rw [made_part3 x n HL.out]
  obtain ⟨W2, eW2⟩ : ∃ W2, W2 = w2.alloc (.cells tab 64) := ⟨_, rfl⟩
  have hW2 : W2.heap.size = w2.heap.size + 1 := by rw [eW2]; simp
  have hb2' : Below w.heap.size w w2 := hb2
  have hbW : Below w.heap.size w W2 := by rw [eW2]; exact hb2.alloc hb2.size _
  have hgW : W2.heap[w2.heap.size]? = some (.cells tab 64 (0, 0)) := by rw [eW2]; exact heap_alloc_new _ _
  rw [← eW2]
  have EW := Lib.hid eW2
  have HW := Lib.hid hW2
  have HG := Lib.hid hgW
  clear eW2 hW2 hgW
  go_loopw [10] (fun i wr => ∃ k : Nat, k ≤ n ∧ i = .int .i64 k ∧ Below (w2.heap.size + 1) W2 wr ∧ Hid (wr.heap[w2.heap.size + 1]? = some (.cells ((part3 x k).map bv).toArray 5 (0, 0)))) (fun i _ => n - (intOf i).toNat)
  case atStart =>
    refine ⟨0, by omega, rfl, (Below.refl _ _).alloc (by rw [HW.out]; omega) _, ?_⟩
    have := heap_alloc_new W2 (.cells ((part3 x 0).map bv).toArray 5 (0, 0))
    rw [HW.out] at this
    exact this
  case round =>
    obtain ⟨k, hk, rfl, hbr, hrow⟩ := hrel
    by_cases hlt : k < n
    · have hb1 : Below w.heap.size w wr := hbW.trans (hbr.mono (by have := hb2.size; omega))
      obtain ⟨b1, o1, rfl, hc1⟩ := (hx1.below hb1) (by intro h; subst h; simp at n1; omega)
      obtain ⟨b2, o2, rfl, hc2⟩ := (hx2.below hb1) (by intro h; subst h; simp at n2; omega)
      obtain ⟨b3, o3, rfl, hc3⟩ := (hx3.below hb1) (by intro h; subst h; simp at n3; omega)
      have c1 := hc1 k (by omega)
      have c2 := hc2 k (by omega)
      have c3 := hc3 k (by omega)
      clear hc1 hc2 hc3
      obtain ⟨y, hy⟩ : ∃ y : UInt8, y = xs1[k] ^^^ xs2[k] ^^^ xs3[k] := ⟨_, rfl⟩
      have hval : bits .xor .u8 (bits .xor .u8 (xs1[k].toNat : Int) (xs2[k].toNat : Int)) (xs3[k].toNat : Int) = (y.toNat : Int) := by rw [hy]; exact xor3_val _ _ _
      have cx : wr.cell? ⟨w2.heap.size + 1, k, none⟩ = some (bv ((part3 x k)[k]'(by rw [length_part3 x k (by rw [HL.out]; omega), HL.out]; exact hlt))) := by
        rw [cell_of_row _ _ _ _ _ _ hrow.out]
        simp [length_part3 x k (by rw [HL.out]; omega), HL.out, hlt]
      have cf := frozen_of_row wr (w2.heap.size + 1) k _ _ hrow.out
      have HY := Lib.hid hy
      clear hy
      have i0 : (0 : Int) ≤ (k : Int) := by omega
      have i1 : (k : Int) < (n : Int) := by omega
      have i2 : (k : Int) < (xs1.length : Int) := by omega
      have i3 : (k : Int) < (xs2.length : Int) := by omega
      have i4 : (k : Int) < (xs3.length : Int) := by omega
      go_wp2_with fail
      go_still_tail 17, (by kernel_rfl)
      change wpList _ _ _ _ _ wr.drew
      go_wp2_with fail
      go_roundw
      case rel =>
        refine ⟨k + 1, by omega, by go_num, (hbr.drew).setCell (Nat.le_refl _) _, ?_⟩
        have hh := heap_setCell_same wr.drew (w2.heap.size + 1) k _ _ (.int .u8 (y.toNat : Int)) hrow.out
        have ey : y = x.getD k 0 := by
          rw [HX.out, getD_xor3 _ _ _ (by simp; omega) (by simp; omega), HY.out]
          simp [hlt, show k < xs1.length by omega, show k < xs2.length by omega, show k < xs3.length by omega]
        have hst := part3_set x k (by rw [HL.out]; exact hlt)
        rw [← ey] at hst
        unfold bv at hst
        unfold bv at hh
        rw [hst] at hh
        exact hh
      case measure => simp [intOf]; omega
    · obtain rfl : k = n := by omega
      go_wp2_with fail
      have hxr : wr.heap[w2.heap.size + 1]? = some (.cells (x.map bv).toArray 5 (0, 0)) := by
        have := hrow.out
        rw [show part3 x k = x by rw [← HL.out]; exact part3_all x] at this
        exact this
      have hsum3 : bits .xor .u32 (bits .xor .u32 (sumN (xs1.take k) : Int) (sumN (xs2.take k) : Int)) (sumN (xs3.take k) : Int) = (sumN x : Int) := by
        rw [u32_xor_nat _ _ (sumN_lt _) (sumN_lt _), u32_xor_nat _ _ (Nat.xor_lt_two_pow (n := 32) (sumN_lt _) (sumN_lt _)) (sumN_lt _), HS.out]
      have hbr0 : Below w.heap.size w wr := hbW.trans (hbr.mono (by have := hb2.size; omega))
      have hlw := (Array.getElem?_eq_some_iff.1 hxr).1
      have TX : Hid (∀ y : SubW wr.heap.size wr, BytesAt y.at_ (some ⟨w2.heap.size + 1, 0, none⟩) x) := fun y => bytesAt_block x ((y.ok_.block _ hlw).trans hxr)
      have TG : Hid (∀ y : SubW wr.heap.size wr, y.at_.heap[w2.heap.size]? = some (.cells tab 64 (0, 0))) := fun y => (y.ok_.block _ (by omega)).trans ((hbr.block _ (by omega)).trans HG.out)
      have T1 : Hid (∀ y : SubW wr.heap.size wr, BytesAt y.at_ A1 (xs1.take k)) := fun y => (hx1.take k).below (hbr0.trans (y.ok_.mono hbr0.size))
      have T2 : Hid (∀ y : SubW wr.heap.size wr, BytesAt y.at_ A2 (xs2.take k)) := fun y => (hx2.take k).below (hbr0.trans (y.ok_.mono hbr0.size))
      have T3 : Hid (∀ y : SubW wr.heap.size wr, BytesAt y.at_ A3 (xs3.take k)) := fun y => (hx3.take k).below (hbr0.trans (y.ok_.mono hbr0.size))
      have i0 : (0 : Int) ≤ (k : Int) := by omega
      have i1 : (k : Int) ≤ (cap1 : Int) := by omega
      have i2 : (k : Int) ≤ (cap2 : Int) := by omega
      have i3 : (k : Int) ≤ (cap3 : Int) := by omega
      refine region_below wr.heap.size wr (Below.refl _ _) (by kernel_rfl) (by kernel_rfl) ?_
      repeat (first
        | (go_big_quiet_want; refine quiet_load_row 64 (.tmp 8) rfl w2.heap.size rfl 64 tab (0, 0) _ TG.out Try.underlying64 rfl (by rw [size_tab]; exact info64) ?_; simp only [Act.put, List.setIfInBounds_toArray, List.set_cons_zero, List.set_cons_succ]; go_big_quiet_on)
        | go_big_quiet_step ((first
            | (go_at_call 37; exact calls_sub (Nat.le_refl _) (sums_any _))
            | (go_at_call 38; with_reducible exact calls_sub (Nat.le_refl _) (sum_len _ _ _ x _ HL.out (TX.out _) (by omega)))
            | (go_at_call 38; with_reducible exact calls_sub (Nat.le_refl _) (sum_len _ _ _ (xs1.take k) _ (by simp; omega) (T1.out _) (by omega)))
            | (go_at_call 38; with_reducible exact calls_sub (Nat.le_refl _) (sum_len _ _ _ (xs2.take k) _ (by simp; omega) (T2.out _) (by omega)))
            | (go_at_call 38; with_reducible exact calls_sub (Nat.le_refl _) (sum_len _ _ _ (xs3.take k) _ (by simp; omega) (T3.out _) (by omega))))))
      refine wpQuiet_nil ?_
      rintro w' ⟨y, rfl⟩
      go_wp2
      all_goals go_ret
      all_goals exact ⟨rfl, hbr0.trans (y.ok_.mono hbr0.size)⟩

end Go.Proofs.Ytnfbebfgllldgaa
