/- The walk of VarintPuts. -/
import Derived.Test.YtnpomochhbkefaaVarRows
import Derived.Test.YtnpomochhbkefaaPi
namespace Go.Proofs.Ytnpomochhbkefaa
open Go.RowKit VarM
set_option linter.unusedVariables false

theorem put_more' (A : Option Addr) (n c : Nat) (xs X : List UInt8) (w : World) (v : Nat) (hX : xs ++ vput v = X) (hn : xs.length = n) (hx : BytesAt w A xs) (hl : n ≤ 100000000) (h0 : A = none → n = 0 ∧ c = 0) (hv : v < 18446744073709551616) :
    Calls Try.prog 27 #[.slice A n c, .int .u64 v] w fun e w' => ∃ A' c', e = .returned (.slice A' X.length c') ∧ BytesAt w' A' X ∧ Below w.heap.size w w' := by
  subst hX
  refine (put_more A n c xs w hn hx hl h0 v hv).mono ?_
  rintro e w' ⟨A', c', rfl, h1, _, _, _, h2⟩
  exact ⟨A', c', rfl, h1, h2⟩
theorem refPut' (W : List UInt8) (w : World) (v : Nat) (hX : vput v = W) (hv : v < 18446744073709551616) :
    Calls Try.prog 28 #[.int .u64 v] w fun e w' => ∃ A' c', e = .returned (.slice A' W.length c') ∧ BytesAt w' A' W ∧ Below w.heap.size w w' := by
  subst hX
  refine (refVarPut_any w v hv).mono ?_
  rintro e w' ⟨A', c', rfl, h1, h2⟩
  obtain ⟨A2, c2, he, hby, _⟩ := h1.slice
  injection he with h3
  subst h3
  exact ⟨A', c', rfl, hby, h2⟩

theorem bytes_cat (ys W X : List UInt8) (h : X = ys ++ W) : (!X == (({ data := ys.toArray } : ByteArray) ++ { data := W.toArray }).toList) = false := by
  have e : (({ data := ys.toArray } : ByteArray) ++ { data := W.toArray }).toList = ys ++ W := by
    rw [ByteArray.toList_eq]
    simp [ByteArray.data_append]
  rw [e, h]
  simp

theorem get_cat (A : Option Addr) (n c : Nat) (X : List UInt8) (w : World) (v : Nat) (us W : List UInt8) (hX : W ++ us = X) (hW : vput v = W) (hn : X.length = n) (hx : BytesAt w A X) (hv : v < 18446744073709551616) :
    Calls Try.prog 30 #[.slice A n c] w fun e w' => e = .returned (.tuple #[.int .u64 (v : Int), .int .i64 (W.length : Int), .int .i64 0]) ∧ w = w' := by
  subst hW
  exact get_more A n c X us w v _ rfl hX.symm hn hx hv

set_option maxHeartbeats 400000 in
set_option maxRecDepth 100000 in
theorem varintPuts_walk (A0 : Option Addr) (cap0 : Nat) (xs0 : List UInt8) {w : World} (hx0 : BytesAt w A0 xs0) (hlc0 : xs0.length ≤ cap0) (hcm0 : cap0 ≤ maxLen) (hng0 : A0 = none → xs0.length = 0 ∧ cap0 = 0) (m : Int) (hm : (Lit.int .u64 m).wf = true)
    (A2 : Option Addr) (cap2 : Nat) (xs2 : List UInt8) (hx2 : BytesAt w A2 xs2) (hlc2 : xs2.length ≤ cap2) (hcm2 : cap2 ≤ maxLen) :
    Calls Try.prog 6 #[.slice A0 xs0.length cap0, .int .u64 m, .slice A2 xs2.length cap2] w fun e w' => e = .returned (.bool true) ∧ Below w.heap.size w w' := by
  obtain ⟨m1, m2⟩ : 0 ≤ m ∧ m < 18446744073709551616 := by have := bounds_u64 hm; omega
  obtain ⟨n, rfl⟩ := Int.eq_ofNat_of_zero_le m1
  have n2 : n < 18446744073709551616 := by omega
  clear hm m1 m2
  obtain ⟨W, hW⟩ : ∃ W, vput n = W := ⟨_, rfl⟩
  have hW1 : 1 ≤ W.length := hW ▸ vput_len_pos n
  have hW10 : W.length ≤ 10 := hW ▸ vput_len10 n2
  obtain ⟨ys, hys⟩ : ∃ ys, ys = xs0.take 20 := ⟨_, rfl⟩
  obtain ⟨r, hr⟩ : ∃ r, r = ys.length := ⟨_, rfl⟩
  have hyl : r = min xs0.length 20 := by rw [hr, hys, List.length_take, Nat.min_comm]
  have hmin : min (xs0.length : Int) 20 = (r : Int) := by omega
  have hr20 : r ≤ 20 := by omega
  have hrx : r ≤ xs0.length := by omega
  have hby : BytesAt w A0 ys := by rw [hys]; exact hx0.take 20
  obtain ⟨us, hus⟩ : ∃ us, us = xs2.take 20 := ⟨_, rfl⟩
  obtain ⟨s, hs⟩ : ∃ s, s = us.length := ⟨_, rfl⟩
  have hul : s = min xs2.length 20 := by rw [hs, hus, List.length_take, Nat.min_comm]
  have hmin2 : min (xs2.length : Int) 20 = (s : Int) := by omega
  have hs20 : s ≤ 20 := by omega
  have hsx : s ≤ xs2.length := by omega
  have hbu : BytesAt w A2 us := by rw [hus]; exact hx2.take 20
  have hng : A0 = none → r = 0 ∧ cap0 = 0 := fun h => by have := hng0 h; omega
  unfold maxLen at hcm0 hcm2
  have HW := Lib.hid hW
  have HR := Lib.hid hr.symm
  have HS := Lib.hid hs.symm
  have HNG := Lib.hid hng
  obtain ⟨X, hX⟩ : ∃ X, ys ++ vput n = X := ⟨_, rfl⟩
  have hXW : X = ys ++ W := by rw [← hX, hW]
  have HX := Lib.hid hX
  have HXW := Lib.hid hXW
  have hcat := bytes_cat ys W X hXW
  have hyW : ¬ 9223372036854775807 < ys.length + W.length := by omega
  clear hW hys hr hus hs hyl hul hng hng0 hX hXW
  go_enter Try.func6, Try.ntmps6
  go_wp2_with (first
    | (go_at_call 27; with_reducible refine (put_more' A0 r cap0 ys X _ n HX.out HR.out hby (by omega) HNG.out n2).mono ?_; rintro e w1 ⟨A3, c3, rfl, hb3, hb1⟩)
    | (go_at_call 28; with_reducible refine (refPut' W _ n HW.out n2).mono ?_; rintro e w2 ⟨A4, c4, rfl, hb4, hb2⟩)
    | (go_at_call 29; refine (vputs_any _).mono ?_; rintro e w5 ⟨rfl, hb5⟩; have t1 := text_n A3 X.length c3 X rfl ((hb3.below hb2).below hb5); have t2 := text_n A4 W.length c4 W rfl (hb4.below hb5); have t3 := text_n A0 r cap0 ys HR.out (((hby.below hb1).below hb2).below hb5)))
  have hb45 := hb4.below hb5
  have hbw5 : Below w.heap.size w w5 := (hb1.trans (hb2.mono hb1.size)).trans (hb5.mono (by have := hb1.size; have := hb2.size; omega))
  have hbu5 := hbu.below hbw5
  obtain ⟨Z, hZ⟩ : ∃ Z, W ++ us = Z := ⟨_, rfl⟩
  have HZ := Lib.hid hZ
  have hZl : Z.length = W.length + s := by rw [← hZ, List.length_append, HS.out]
  have HZL := Lib.hid hZl
  have hm37 : min (xs2.length : Int) 20 = (s : Int) := hmin2
  have s0 : (0 : Int) ≤ (s : Int) := by omega
  have s1 : (s : Int) ≤ (cap2 : Int) := by omega
  clear hZ hZl
  refine region_bl' [([1, 3, 4, 5, 6, 7], 0), ([], 2), ([], 8), ([], 9)] [10, 11, 12, 13, 14, 15, 16] (fun _ => True) (by kernel_rfl) (by kernel_rfl) (fun _ _ => trivial) ?_
  rintro wd hbd -
  rw [wpBl_cons]
  simp only [List.map_cons, List.map_nil, opAt, List.getElem?_toArray, List.getElem?_cons_zero, List.getElem?_cons_succ, Option.getD_some]
  repeat (go_big_quiet_step (fail))
  refine wpQuiet_nil ?_
  go_wp2_with fail
  refine ⟨trivial, ?_⟩
  have ho0 := OwnS.new wd 5 [] wd.heap.size (Nat.le_refl _) (by simp)
  have hb0 : Below wd.heap.size wd (wd.alloc (.cells #[] 5)) := (Below.refl _ _).alloc (Nat.le_refl _) _
  have hbd0 : Below w5.heap.size w5 (wd.alloc (.cells #[] 5)) := hbd.trans (hb0.mono hbd.size)
  rw [wpBl_cons]
  simp only [List.map_cons, List.map_nil, opAt, List.getElem?_toArray, List.getElem?_cons_zero, List.getElem?_cons_succ, Option.getD_some]
  refine wpQuiet_nil ?_
  go_wp2_with (at_builtin; refine wpList_append_s rfl (.tmp 35) (.tmp 36) 30 rfl Try.underlying30 infoU8 rfl ho0 _ _ _ W rfl rfl (hb45.below hbd0) (by simp; omega) (by simp) ?_; intro A6 c6 w6 ho6 hg6)
  refine ⟨trivial, ?_⟩
  simp only [Act.put, List.setIfInBounds_toArray, List.set_cons_zero, List.set_cons_succ]
  rw [List.nil_append] at ho6
  have hb6 := ho0.belowGrown (Nat.le_refl _) (by simp) hb0 hg6
  have hbd6 := hbd.trans (hb6.mono hbd.size)
  rw [wpBl_cons]
  simp only [List.map_cons, List.map_nil, opAt, List.getElem?_toArray, List.getElem?_cons_zero, List.getElem?_cons_succ, Option.getD_some]
  refine wpQuiet_nil ?_
  go_wp2_with (at_builtin; refine wpList_append_s rfl (.tmp 37) (.tmp 42) 30 rfl Try.underlying30 infoU8 rfl ho6 _ _ s us rfl HS.out (hbu5.below hbd6) (by omega) hb6.size ?_; intro A7 c7 w7 ho7 hg7)
  refine ⟨trivial, ?_⟩
  simp only [Act.put, List.setIfInBounds_toArray, List.set_cons_zero, List.set_cons_succ]
  have hb7 := ho6.belowGrown (Nat.le_refl _) hb6.size hb6 hg7
  have hbd7 := hbd.trans (hb7.mono hbd.size)
  have hby8 := ho7.bytes
  rw [wpBl_cons]
  simp only [List.map_cons, List.map_nil, opAt, List.getElem?_toArray, List.getElem?_cons_zero, List.getElem?_cons_succ, Option.getD_some]
  refine wpQuiet_nil ?_
  go_wp2_with (go_at_call 30; with_reducible refine (get_cat A7 _ c7 (W ++ us) _ n us W rfl HW.out List.length_append hby8 n2).mono ?_; rintro e w8 ⟨rfl, rfl⟩)
  refine ⟨trivial, ?_⟩
  rw [wpBl_nil]
  simp only [List.map_cons, List.map_nil, opAt, List.getElem?_toArray, List.getElem?_cons_zero, List.getElem?_cons_succ, Option.getD_some]
  repeat (go_big_quiet_step (fail))
  refine wpQuiet_nil ?_
  go_wp2_with fail
  go_ret
  exact ⟨rfl, hbw5.trans (hbd7.mono hbw5.size)⟩
end Go.Proofs.Ytnpomochhbkefaa
