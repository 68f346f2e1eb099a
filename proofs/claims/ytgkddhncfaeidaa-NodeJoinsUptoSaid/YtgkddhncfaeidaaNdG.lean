/- Package node's cursor, and Get at the example. -/
import Derived.Test.YtgkddhncfaeidaaNdP
namespace Go.Proofs.Ytgkddhncfaeidaa
open Go.RowKit CrcM PageM
set_option linter.unusedVariables false

theorem or_u64n (a : Nat) (c : UInt8) (ha : a < 72057594037927936) : bits BinOp.or IntKind.u64 ((a : Int) * 256) (c.toNat : Int) = ((a * 256 + c.toNat : Nat) : Int) := by
  have hc := c.toNat_lt
  have e : bits BinOp.or IntKind.u64 ((a * 256 : Nat) : Int) ((c.toNat : Nat) : Int) = ((a * 256 ||| c.toNat : Nat) : Int) := u64_or_nat _ _ (by omega) (by omega)
  rw [nat_join 8 (a * 256) c.toNat (by omega) (by omega)] at e
  exact e

set_option maxRecDepth 100000 in
theorem high_nd (r g o len cap : Nat) (xs : List UInt8) (w : World) (hr : w.heap[r]? = some (.cells #[.slice (some ⟨g, o, none⟩) len cap] 95 (0, 0))) (hx : BytesAt w (some ⟨g, o, none⟩) xs) (hlen : xs.length = len) (hc : len ≤ cap) (hcm : cap ≤ maxLen) (z : Int) (s : Nat) (hz : z = (s : Int)) (hs : s ≤ len) (hs8 : s ≤ 8) :
    Calls Try.prog 46 #[.pointer (some ⟨r, 0, none⟩), .int .i64 z] w fun e w' => e = .returned (.int .u64 (val (xs.take s))) ∧ ∃ A', w' = w.setCell ⟨r, 0, none⟩ (.slice A' (len - s) (cap - s)) ∧ (s < len → A' = some ⟨g, o + s, none⟩) := by
  subst hz hlen
  unfold maxLen at hcm
  have h0 := nd_cell hr 0 _ rfl
  have hfz : w.frozen? ⟨r, 0, none⟩ = false := by simp [World.frozen?, hr]
  go_enter Try.func46, Try.ntmps46
  go_wp2_with fail
  go_loop [5, 14] (fun v i => ∃ k : Nat, k ≤ s ∧ i = .int .i64 k ∧ v = .int .u64 (val (xs.take k))) (fun _ i => s - (intOf i).toNat)
  case atStart => exact ⟨0, by omega, rfl, by simp [val]⟩
  case round =>
    obtain ⟨k, hk, rfl, rfl⟩ := hrel
    by_cases hlt : k < s
    · obtain ⟨b, off, hbo, hcl⟩ := hx (by intro h; subst h; simp at hs; omega)
      injection hbo with hbo
      injection hbo with e1 e2 e3
      subst e1 e2
      have hck := hcl k (by omega)
      clear hcl
      have hv : val (xs.take k) < 72057594037927936 := by
        have := val_lt (xs.take k)
        have h2 : 256 ^ (xs.take k).length ≤ 256 ^ 7 := Nat.pow_le_pow_right (by omega) (by simp; omega)
        omega
      go_wp2_with fail
      go_round
      case rel =>
        refine ⟨k + 1, by omega, by go_num, ?_⟩
        have hlt2 : k < xs.length := by omega
        have hw : IntKind.u64.wrap (xs[k].toNat : Int) = (xs[k].toNat : Int) := by have := xs[k].toNat_lt; rw [IntKind.wrap_u64]; omega
        rw [hw, or_u64n _ _ hv, List.take_succ_eq_append_getElem hlt2, val_snoc]
      case measure => simp [intOf]; omega
    · obtain rfl : k = s := by omega
      by_cases hcs : cap = k
      · subst hcs
        go_wp2_with fail
        go_ret
        exact ⟨rfl, _, rfl, fun h => by omega⟩
      · go_wp2_with fail
        go_ret
        exact ⟨rfl, _, rfl, fun _ => rfl⟩

theorem _root_.Go.World.grownBy.setCell_own {w w' : World} {g : Nat} (h : w.grownBy w' (some g)) (i : Nat) (v : Value) : w.grownBy (w'.setCell ⟨g, i, none⟩ v) (some g) :=
  ⟨h.os, h.tape, h.output, by simpa using h.size, fun k hk hne => (Below.heap_setCell w' ⟨g, i, none⟩ v k (fun e => hne (by rw [e]))).trans (h.block k hk hne)⟩
theorem bytes_grown {w w' : World} {g o r : Nat} {xs : List UInt8} (h : BytesAt w (some ⟨g, o, none⟩) xs) (hg : w.grownBy w' (some r)) (hne : g ≠ r) : BytesAt w' (some ⟨g, o, none⟩) xs := fun hx => by
  obtain ⟨b, off, hbo, hc⟩ := h hx
  injection hbo with hbo
  injection hbo with e1 e2 e3
  subst e1 e2
  exact ⟨g, o, rfl, fun k hk => (World.cell?_of_block (a := ⟨g, o + k, none⟩) (hg.block g (World.block_lt_of_cell? _ _ (hc k hk)) (fun e => hne (by injection e)))).trans (hc k hk)⟩

def xs14 : List UInt8 := [0, 0, 0, 1, 0, 0, 0, 0, 0, 0, 0, 2, 0, 5]

theorem high4_ex (r g c : Nat) (w : World) (hr : w.heap[r]? = some (.cells #[.slice (some ⟨g, 1, none⟩) 14 (c - 1)] 95 (0, 0))) (hx : BytesAt w (some ⟨g, 1, none⟩) xs14) (hc : 15 ≤ c) (hcm : c ≤ maxLen) :
    Calls Try.prog 46 #[.pointer (some ⟨r, 0, none⟩), .int .i64 4] w fun e w' => e = .returned (.int .u64 1) ∧ w'.heap[r]? = some (.cells #[.slice (some ⟨g, 5, none⟩) 10 (c - 5)] 95 (0, 0)) ∧ w.grownBy w' (some r) := by
  refine (high_nd r g 1 14 (c - 1) xs14 w hr hx rfl (by omega) (by omega) 4 4 rfl (by omega) (by omega)).mono ?_
  rintro e w1 ⟨rfl, A1, rfl, hA1⟩
  obtain rfl := hA1 (by omega)
  exact ⟨by rw [show val (xs14.take 4) = 1 from by decide]; rfl, (heap_setCell_same w r 0 _ _ _ hr).trans (by rw [Nat.sub_sub]; rfl), World.grownBy.setCell_own (World.grownBy.refl w _) 0 _⟩
theorem high8_ex (r g c : Nat) (w : World) (hr : w.heap[r]? = some (.cells #[.slice (some ⟨g, 5, none⟩) 10 (c - 5)] 95 (0, 0))) (hx : BytesAt w (some ⟨g, 5, none⟩) (xs14.drop 4)) (hc : 15 ≤ c) (hcm : c ≤ maxLen) :
    Calls Try.prog 46 #[.pointer (some ⟨r, 0, none⟩), .int .i64 8] w fun e w' => e = .returned (.int .u64 2) ∧ w'.heap[r]? = some (.cells #[.slice (some ⟨g, 13, none⟩) 2 (c - 13)] 95 (0, 0)) ∧ w.grownBy w' (some r) := by
  refine (high_nd r g 5 10 (c - 5) (xs14.drop 4) w hr hx rfl (by omega) (by omega) 8 8 rfl (by omega) (by omega)).mono ?_
  rintro e w1 ⟨rfl, A1, rfl, hA1⟩
  obtain rfl := hA1 (by omega)
  exact ⟨by rw [show val ((xs14.drop 4).take 8) = 2 from by decide]; rfl, (heap_setCell_same w r 0 _ _ _ hr).trans (by rw [Nat.sub_sub]; rfl), World.grownBy.setCell_own (World.grownBy.refl w _) 0 _⟩
theorem high2_ex (r g c : Nat) (w : World) (hr : w.heap[r]? = some (.cells #[.slice (some ⟨g, 13, none⟩) 2 (c - 13)] 95 (0, 0))) (hx : BytesAt w (some ⟨g, 13, none⟩) (xs14.drop 12)) (hc : 15 ≤ c) (hcm : c ≤ maxLen) :
    Calls Try.prog 46 #[.pointer (some ⟨r, 0, none⟩), .int .i64 2] w fun e w' => e = .returned (.int .u64 5) ∧ (∃ v, w'.heap[r]? = some (.cells #[v] 95 (0, 0))) ∧ w.grownBy w' (some r) := by
  refine (high_nd r g 13 2 (c - 13) (xs14.drop 12) w hr hx rfl (by omega) (by omega) 2 2 rfl (by omega) (by omega)).mono ?_
  rintro e w1 ⟨rfl, A1, rfl, hA1⟩
  exact ⟨by rw [show val ((xs14.drop 12).take 2) = 5 from by decide]; rfl, ⟨_, (heap_setCell_same w r 0 _ _ _ hr).trans rfl⟩, World.grownBy.setCell_own (World.grownBy.refl w _) 0 _⟩

set_option maxRecDepth 100000 in
theorem key_ex (r g c : Nat) (w : World) (hr : w.heap[r]? = some (.cells #[.slice (some ⟨g, 1, none⟩) 14 (c - 1)] 95 (0, 0))) (hx : BytesAt w (some ⟨g, 1, none⟩) xs14) (hne : g ≠ r) (hc : 15 ≤ c) (hcm : c ≤ maxLen) :
    Calls Try.prog 45 #[.pointer (some ⟨r, 0, none⟩)] w fun e w' => e = .returned (.agg #[.int .i64 1, .int .i64 2]) ∧ w'.heap[r]? = some (.cells #[.slice (some ⟨g, 13, none⟩) 2 (c - 13)] 95 (0, 0)) ∧ w.grownBy w' (some r) := by
  have hrl : r < w.heap.size := (Array.getElem?_eq_some_iff.1 hr).1
  have hxa := hx.below ((Below.refl w.heap.size w).alloc (Nat.le_refl _) (.cells #[.int .i64 0, .int .i64 0] 46))
  have hra := (Below.heap_alloc w (.cells #[.int .i64 0, .int .i64 0] 46) r hrl).trans hr
  have hkr : (w.alloc (.cells #[.int .i64 0, .int .i64 0] 46)).heap[w.heap.size]? = _ := heap_alloc_new w _
  have HXA := Lib.hid hxa
  have HRA := Lib.hid hra
  have HKR := Lib.hid hkr
  clear hx hr hxa hra hkr
  go_enter Try.func45, Try.ntmps45
  go_wp2_with (first
    | (go_at_call 46; (with_reducible refine (high4_ex r g c _ HRA.out HXA.out hc hcm).mono ?_); rintro e w1 ⟨rfl, hr1, hg1⟩; have HR1 := Lib.hid hr1; have HX1 := Lib.hid (bytes_grown (HXA.out.cut 4 (some ⟨g, 5, none⟩) (fun _ => by rfl)) hg1 hne); clear hr1)
    | (go_at_call 46; (with_reducible refine (high8_ex r g c _ HR1.out HX1.out hc hcm).mono ?_); rintro e w2 ⟨rfl, hr2, hg2⟩; have HR2 := Lib.hid hr2; clear hr2; have hk2 := (hg2.block w.heap.size (by have := hg1.size; simp at this; omega) (by intro e; injection e; omega)).trans ((hg1.block w.heap.size (by simp) (by intro e; injection e; omega)).trans HKR.out))
    | (refine wpList_store_row rfl 46 (.tmp 2) (.tmp 9) rfl w.heap.size _ rfl rfl 46 _ hk2 (by kernel_rfl) (by kernel_rfl) (by kernel_rfl) ?_))
  have hlt1 : w.heap.size < w1.heap.size := by have := hg1.size; simp at this; omega
  refine bodyPost_ret (v := .agg #[.int .i64 1, .int .i64 2]) (results_cell_row (p := 2) (ty := 46) rfl _ _ w.heap.size 46 #[.int .i64 1, .int .i64 2] (0, 0) _ rfl (setRow_heap _ _ _ _ _ _ hk2) Try.underlying46 rfl (by kernel_rfl)) rfl ⟨rfl, (setRow_other _ _ _ _ (by omega)).trans HR2.out, ?_⟩
  have hg : w.grownBy w2 (some r) := (grown_alloc w _ _).trans' (hg1.trans' hg2)
  exact ⟨hg.os, hg.tape, hg.output, by simpa using hg.size, fun k hk hne => (setRow_other _ _ _ _ (by omega)).trans (hg.block k hk hne)⟩
end Go.Proofs.Ytgkddhncfaeidaa
