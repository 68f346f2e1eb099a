/- Several texts in one: chunk.Encode and Decode at the example; ricklaw10.codes is true; chunk.Codec. Even times, once more (TimesEven's and TimesClasses' mathematics: never. Chunks of even samples: how many bytes they have. ricklaw10.To and rickref10.Right: their contracts; how samples that came in are told to a walk. An own row of rickref10's samples. The walk of ChunkRights (printed by wip/tools/gen_rights.py). The condition on both tables: a world that meets it. What the condition on both tables gives; how an array of two numbers that came in is told to a walk. -/
import Derived.Test.YtocddhokjhfaaaaDoorPartE
import Derived.Test.YtocddhokjhfaaaaDoorPartD
import Derived.Test.YtocddhokjhfaaaaDoorPartA
import Derived.Deep.SlicePairs
import Derived.Test.YtocddhokjhfaaaaDoorRows
import Derived.LaidMore
import Derived.LaidHandle
import Derived.Stop.Joined
import Derived.Test.YtocddhokjhfaaaaDoorPartC
import Derived.Lib.LaidTab
import Derived.ChangeSame
namespace Go.Proofs.YtocddhokjhfaaaaDoor
open Go.RowKit BitM VarM RunM
set_option linter.unusedVariables false

set_option maxHeartbeats 800000 in
set_option maxRecDepth 100000 in
theorem encode_ex (A : Option Addr) (c : Nat) (w : World) (hx : Smp w A) (hc : 2 ≤ c) (hcm : c ≤ maxLen) :
    Calls Tryd.prog 14 #[.slice A 2 c, .int .i64 6] w fun e w' => ∃ A' c', e = .returned (.tuple #[.slice A' 7 c', .int .i64 0]) ∧ BytesAt w' A' [6, 0, 2, 20, 3, 2, 7] ∧ 7 ≤ c' ∧ c' ≤ maxLen ∧ Below w.heap.size w w' := by
  have HX := Lib.hid hx
  clear hx
  go_enter Tryd.func14, Tryd.ntmps14
  go_wp2_with (first
    | (go_at_call 17; with_reducible refine (chunkRight_ex A c _ HX.out hc hcm).mono ?_; rintro e w1 ⟨rfl, hb1⟩)
    | (go_at_call 26; with_reducible refine (apart_ex A c _ (HX.out.below hb1) hc hcm).mono ?_; rintro e w2 ⟨A1, c1, A2, c2, rfl, ht2, hc1, hm1, hn2, hc2, hm2, hb2⟩; have hbw2 := hb1.trans (hb2.mono hb1.size))
    | (go_at_call 8; with_reducible refine (timesPut1_ex A1 c1 _ ht2 hc1 hm1).mono ?_; rintro e w3 ⟨A3, c3, rfl, hx3, hc3, hm3, hb3⟩; have hbw3 := hbw2.trans (hb3.mono hbw2.size))
    | (go_at_call 27; with_reducible refine (putValues_ex A2 c2 _ (hn2.below hb3) hc2 hm2).mono ?_; rintro e w4 ⟨A4, c4, rfl, hx4, hc4, hm4, hb4⟩; have hbw4 := hbw3.trans (hb4.mono hbw3.size); have hx34 := hx3.below hb4; have ho5 := OwnS.new w4 5 [6, 0, 2] w4.heap.size (Nat.le_refl _) (by unfold maxLen; simp); have hb5 : Below w4.heap.size w4 (w4.alloc (.cells #[.int .u8 6, .int .u8 0, .int .u8 2] 5)) := (Below.refl _ _).alloc (Nat.le_refl _) _)
    | (at_builtin; refine wpList_append_z rfl (.tmp 59) (.tmp 60) 24 rfl Tryd.underlying24 infoU8 rfl ho5 _ _ 2 [20, 3] [6, 0, 2, 20, 3] rfl rfl (hx34.below hb5) rfl (by simp) (by simp) ?_; intro A6 c6 w6 ho6 hg6; have hb6 := ho5.belowGrown (Nat.le_refl _) (by simp) hb5 hg6; have hx46 := hx4.below hb6)
    | (at_builtin; refine wpList_append_z rfl (.tmp 62) (.tmp 63) 24 rfl Tryd.underlying24 infoU8 rfl ho6 _ _ 2 [2, 7] [6, 0, 2, 20, 3, 2, 7] rfl rfl hx46 rfl (by simp) (by exact hb6.size) ?_; intro A7 c7 w7 ho7 hg7; have hb7 := ho6.belowGrown (Nat.le_refl _) hb6.size hb6 hg7))
  have hcp := ho7.caps
  go_ret2
  exact ⟨A7, c7, rfl, ho7.bytes, hcp.2.1, hcp.2.2.1, hbw4.trans (hb7.mono hbw4.size)⟩

set_option maxHeartbeats 800000 in
set_option maxRecDepth 100000 in
theorem decode_ex (A : Option Addr) (c : Nat) (w : World) (hx : BytesAt w A [6, 0, 2, 20, 3, 2, 7]) (hc : 7 ≤ c) (hcm : c ≤ maxLen) :
    Calls Tryd.prog 28 #[.slice A 7 c] w fun e w' => ∃ A' c', e = .returned (.tuple #[.slice A' 2 c', .int .i64 6, .int .i64 0]) ∧ Smp w' A' ∧ Below w.heap.size w w' := by
  obtain ⟨b, off, rfl, hcell⟩ := hx (by simp)
  have h0 : w.cell? ⟨b, off, none⟩ = some (.int .u8 6) := hcell 0 (by decide)
  have h1 : w.cell? ⟨b, off + 1, none⟩ = some (.int .u8 0) := hcell 1 (by decide)
  have h2 : w.cell? ⟨b, off + 2, none⟩ = some (.int .u8 2) := hcell 2 (by decide)
  have hx3 : BytesAt w (some ⟨b, off + 3, none⟩) [20, 3, 2, 7] := hx.cut 3 (some ⟨b, off + 3, none⟩) (fun _ => by rw [Option.map_some, Addr.add_lit])
  have hx5 : BytesAt w (some ⟨b, off + 3 + 2, none⟩) [2, 7] := hx3.cut 2 (some ⟨b, off + 3 + 2, none⟩) (fun _ => by rw [Option.map_some, Addr.add_lit])
  have hbl := World.block_lt_of_cell? _ _ h0
  have k0 : ∀ y : SubW w.heap.size w, y.at_.cell? ⟨b, off, none⟩ = some (.int .u8 6) := fun y => (World.cell?_of_block (a := ⟨b, off, none⟩) (y.ok_.block _ hbl)).trans h0
  have k1 : ∀ y : SubW w.heap.size w, y.at_.cell? ⟨b, off + 1, none⟩ = some (.int .u8 0) := fun y => (World.cell?_of_block (a := ⟨b, off + 1, none⟩) (y.ok_.block _ hbl)).trans h1
  have k2 : ∀ y : SubW w.heap.size w, y.at_.cell? ⟨b, off + 2, none⟩ = some (.int .u8 2) := fun y => (World.cell?_of_block (a := ⟨b, off + 2, none⟩) (y.ok_.block _ hbl)).trans h2
  have hor : bits BinOp.or IntKind.i64 0 2 = 2 := by decide
  have hc3 : ¬ c = 3 := by omega
  have hc5 : ¬ c - 3 = 2 := by omega
  have HX3 := Lib.hid hx3
  have HX5 := Lib.hid hx5
  unfold maxLen at hcm
  clear hcell hx hx3 hx5
  go_enter Tryd.func28, Tryd.ntmps28
  go_wp2_with fail
  refine region_over [] [0, 1, 2, 3, 4, 5, 6, 7, 8, 9, 10, 11, 12, 13, 14, 15] (by kernel_rfl) (by kernel_rfl) ?_
  rintro wd hbd
  rw [wpBl_nil]
  simp only [List.map_cons, List.map_nil, opAt, List.getElem?_toArray, List.getElem?_cons_zero, List.getElem?_cons_succ, Option.getD_some]
  repeat (go_big_quiet_step (fail))
  refine wpQuiet_nil ?_
  go_wp2_with (first
    | (go_at_call 9; with_reducible refine (timesGet1_ex4 (some ⟨b, off + 3, none⟩) (c - 3) _ (HX3.out.below hbd) (by omega) (by unfold maxLen; omega)).mono ?_; rintro e w2 ⟨A2, c2, rfl, ht2, hb2⟩; have hbw2 := hbd.trans (hb2.mono hbd.size))
    | (go_at_call 43; with_reducible refine (getValues_ex (some ⟨b, off + 3 + 2, none⟩) _ _ (HX5.out.below hbw2) (by omega) (by unfold maxLen; omega)).mono ?_; rintro e w3 ⟨A3, c3, rfl, hn3, hb3⟩; have hbw3 := hbw2.trans (hb3.mono hbw2.size))
    | (go_at_call 44; with_reducible refine (together_ex A2 c2 A3 c3 _ (ht2.below hb3) hn3).mono ?_; rintro e w4 ⟨A4, c4, rfl, hs4, hc4, hm4, hb4⟩; have hbw4 := hbw3.trans (hb4.mono hbw3.size))
    | (go_at_call 17; with_reducible refine (chunkRight_ex A4 c4 _ hs4 hc4 hm4).mono ?_; rintro e w5 ⟨rfl, hb5⟩; have hbw5 := hbw4.trans (hb5.mono hbw4.size)))
  go_ret3
  exact ⟨A4, c4, rfl, hs4.below hb5, hbw5⟩

theorem chIsWay_yes (z : Int) (h0 : 0 ≤ z) (h4 : z < 4) (w : World) : Calls Tryd.prog 29 #[.int .i64 z] w fun e w' => e = .returned (.bool true) ∧ w = w' := by
  have d0 : decide (0 ≤ z) = true := by rw [decide_eq_true_iff]; exact h0
  have d3 : decide (z < 4) = true := by rw [decide_eq_true_iff]; exact h4
  go_enter Tryd.func29, Tryd.ntmps29
  go_wp2_with fail
  go_ret
  exact ⟨rfl, rfl⟩
theorem chIsWay_no (z : Int) (h : z < 0 ∨ 4 ≤ z) (w : World) : Calls Tryd.prog 29 #[.int .i64 z] w fun e w' => e = .returned (.bool false) ∧ w = w' := by
  rcases h with h | h
  · have d0 : decide (0 ≤ z) = false := by rw [decide_eq_false_iff_not]; omega
    go_enter Tryd.func29, Tryd.ntmps29
    go_wp2_with fail
    go_ret
    exact ⟨rfl, rfl⟩
  · have d0 : decide (0 ≤ z) = true := by rw [decide_eq_true_iff]; omega
    have d3 : decide (z < 4) = false := by rw [decide_eq_false_iff_not]; omega
    go_enter Tryd.func29, Tryd.ntmps29
    go_wp2_with fail
    go_ret
    exact ⟨rfl, rfl⟩
theorem codec_yes (a b : Int) (a0 : 0 ≤ a) (a4 : a < 4) (b0 : 0 ≤ b) (b4 : b < 4) (w : World) : Calls Tryd.prog 18 #[.int .i64 a, .int .i64 b] w fun e w' => e = .returned (.int .i64 (4 * a + b)) ∧ w = w' := by
  go_enter Tryd.func18, Tryd.ntmps18
  go_wp2_with (first
    | (go_at_call 29; with_reducible refine (chIsWay_yes a a0 a4 _).mono ?_; rintro e w1 ⟨rfl, rfl⟩)
    | (go_at_call 29; with_reducible refine (chIsWay_yes b b0 b4 _).mono ?_; rintro e w1 ⟨rfl, rfl⟩))
  go_ret
  exact ⟨rfl, rfl⟩
theorem codec_no (a b : Int) (h : a < 0 ∨ 4 ≤ a ∨ b < 0 ∨ 4 ≤ b) (w : World) : Calls Tryd.prog 18 #[.int .i64 a, .int .i64 b] w fun e w' => e = .returned (.int .i64 (-1)) ∧ w = w' := by
  by_cases ha : a < 0 ∨ 4 ≤ a
  · have HA := Lib.hid ha
    clear ha h
    go_enter Tryd.func18, Tryd.ntmps18
    go_wp2_with (go_at_call 29; with_reducible refine (chIsWay_no a HA.out _).mono ?_; rintro e w1 ⟨rfl, rfl⟩)
    go_ret
    exact ⟨rfl, rfl⟩
  · have a0 : 0 ≤ a := by omega
    have a4 : a < 4 := by omega
    have hb : b < 0 ∨ 4 ≤ b := by omega
    have HB := Lib.hid hb
    clear ha h hb
    go_enter Tryd.func18, Tryd.ntmps18
    go_wp2_with (first
      | (go_at_call 29; with_reducible refine (chIsWay_no b HB.out _).mono ?_; rintro e w1 ⟨rfl, rfl⟩)
      | (go_at_call 29; with_reducible refine (chIsWay_yes a a0 a4 _).mono ?_; rintro e w1 ⟨rfl, rfl⟩))
    go_ret
    exact ⟨rfl, rfl⟩

set_option maxRecDepth 100000 in
theorem codes_any (w : World) : Calls Tryd.prog 16 #[] w fun e w' => e = .returned (.bool true) ∧ Below w.heap.size w w' := by
  have hb0 : Below w.heap.size w (w.alloc (.cells #[.int .i64 10, .int .u64 7, .int .i64 13, .int .u64 7] 49)) := (Below.refl _ _).alloc (Nat.le_refl _) _
  have hx0 : Smp (w.alloc (.cells #[.int .i64 10, .int .u64 7, .int .i64 13, .int .u64 7] 49)) (some ⟨w.heap.size, 0, none⟩) := ⟨w.heap.size, 0, rfl, by rw [World.cell?_alloc_new]; rfl, by rw [World.cell?_alloc_new]; rfl, by rw [World.cell?_alloc_new]; rfl, by rw [World.cell?_alloc_new]; rfl⟩
  go_enter Tryd.func16, Tryd.ntmps16
  go_wp2_with (go_at_call 14; with_reducible refine (encode_ex (some ⟨w.heap.size, 0, none⟩) 2 _ hx0 (by omega) (by unfold maxLen; omega)).mono ?_; rintro e w1 ⟨A1, c1, rfl, hx1, hc1, hm1, hb1⟩)
  have hb01 := hb0.trans (hb1.mono hb0.size)
  go_loud (with_reducible refine (decode_ex A1 c1 _ hx1 hc1 hm1).mono ?_)
  rintro e w2 ⟨A2, c2, rfl, hs2, hb2⟩
  obtain ⟨b2, o2, rfl, q0, q1, q2, q3⟩ := hs2
  have t1 := text_n A1 7 c1 [6, 0, 2, 20, 3, 2, 7] rfl (hx1.below hb2)
  go_wp2_with (go_at_call 18; refine (codec_yes 1 2 (by omega) (by omega) (by omega) (by omega) _).mono ?_; rintro e w3 ⟨rfl, rfl⟩)
  go_ret
  exact ⟨rfl, hb01.trans (hb2.mono hb01.size)⟩
end Go.Proofs.YtocddhokjhfaaaaDoor

namespace BitM
open Go.Proofs.YtocddhokjhfaaaaDoor
theorem i64_cong (z : Int) : ∃ k : Int, i64 z = z + 18446744073709551616 * k := by
  refine ⟨-((z + 9223372036854775808) / 18446744073709551616), ?_⟩
  unfold i64 Go.RowKit.wrap64
  omega
theorem i64_of (z d k : Int) (h : z = d + 18446744073709551616 * k) (h1 : -9223372036854775808 ≤ d) (h2 : d ≤ 9223372036854775807) : i64 z = d := by
  subst h
  unfold i64 Go.RowKit.wrap64
  omega
/-- Times with one step between them. -/
def evens (f s : Int) : Nat → List Int
  | 0 => []
  | k + 1 => evens f s k ++ [i64 (f + k * s)]
theorem evens_len (f s : Int) : ∀ k, (evens f s k).length = k
  | 0 => rfl
  | k + 1 => by simp [evens, evens_len f s k]
theorem evens_get (f s : Int) : ∀ n k, k < n → (evens f s n).getD k 0 = i64 (f + k * s)
  | 0, k, h => by omega
  | n + 1, k, h => by
    show (evens f s n ++ [i64 (f + n * s)]).getD k 0 = _
    rw [List.getD_eq_getElem?_getD]
    rcases Nat.lt_or_ge k n with h1 | h1
    · rw [List.getElem?_append_left (by rw [evens_len]; exact h1), ← List.getD_eq_getElem?_getD]
      exact evens_get f s n k h1
    · obtain rfl : k = n := by omega
      rw [List.getElem?_append_right (by rw [evens_len]; omega), evens_len, Nat.sub_self]
      rfl
theorem evens_range (f s : Int) : ∀ n, ∀ v ∈ evens f s n, -9223372036854775808 ≤ v ∧ v ≤ 9223372036854775807
  | 0, v, h => by simp [evens] at h
  | n + 1, v, h => by
    simp only [evens, List.mem_append, List.mem_singleton] at h
    rcases h with h | rfl
    · exact evens_range f s n v h
    · exact i64_range _
theorem i64_step (f s : Int) (k : Nat) : i64 (i64 (f + (k + 1 : Nat) * s) - i64 (f + k * s)) = i64 s := by
  obtain ⟨a, ha⟩ := i64_cong (f + (k + 1 : Nat) * s)
  obtain ⟨b, hb⟩ := i64_cong (f + k * s)
  obtain ⟨c, hc⟩ := i64_cong s
  have hr := i64_range s
  refine i64_of _ (i64 s) (a - b - c) ?_ hr.1 hr.2
  rw [ha, hb, hc]
  have e : ((k + 1 : Nat) : Int) * s = k * s + s := by push_cast; rw [Int.add_mul, Int.one_mul]
  rw [e]
  omega
theorem turn_even (f s : Int) (n k : Nat) (h1 : 1 ≤ k) (h : k + 1 < n) : turn (evens f s n) k = 0 := by
  unfold turn
  rw [evens_get f s n (k + 1) h, evens_get f s n k (by omega), evens_get f s n (k - 1) (by omega)]
  obtain ⟨j, rfl⟩ : ∃ j, k = j + 1 := ⟨k - 1, by omega⟩
  rw [Nat.add_sub_cancel, i64_step f s (j + 1), i64_step f s j, Int.sub_self]
  exact i64_of 0 0 0 (by omega) (by omega) (by omega)
theorem tt_even (f s : Int) (n : Nat) : ∀ k, k + 1 < n → (tt (evens f s n) (k + 1)).1 = 128 + k
  | 0, _ => by
    show 0 + wi 64 + wi 64 = 128 + 0
    rw [show wi 64 = 64 by decide]
  | k + 1, h => by
    show ((tch (turn (evens f s n) (k + 1))).foldl stp (tt (evens f s n) (k + 1))).1 = _
    rw [tch_len, turn_even f s n (k + 1) (by omega) h, tt_even f s n k (by omega)]
    show 128 + k + 1 + 0 = _
    omega
theorem tby_even0 (f s : Int) : (tby (evens f s 0)).length = 0 := rfl
theorem tby_even1 (f s : Int) : (tby (evens f s 1)).length = 8 := by
  rw [tby_len (by simp [evens])]
  show (0 + wi 64 + 7) / 8 = 8
  rw [show wi 64 = 64 by decide]
theorem tby_even (f s : Int) (n : Nat) (h : 2 ≤ n) : (tby (evens f s n)).length = 16 + (n - 2 + 7) / 8 := by
  rw [tby_len (by intro h0; have := congrArg List.length h0; rw [evens_len] at this; simp at this; omega), evens_len]
  obtain ⟨k, rfl⟩ : ∃ k, n = k + 2 := ⟨n - 2, by omega⟩
  rw [show k + 2 - 1 = k + 1 by omega, tt_even f s (k + 2) k (by omega)]
  omega
theorem i64_next (f s : Int) (k : Nat) : i64 (i64 (f + k * s) + s) = i64 (f + (k + 1 : Nat) * s) := by
  obtain ⟨b, hb⟩ := i64_cong (f + k * s)
  obtain ⟨a, ha⟩ := i64_cong (f + (k + 1 : Nat) * s)
  have hr := i64_range (f + (k + 1 : Nat) * s)
  refine i64_of _ _ (b - a) ?_ hr.1 hr.2
  rw [ha, hb]
  have e : ((k + 1 : Nat) : Int) * s = k * s + s := by push_cast; rw [Int.add_mul, Int.one_mul]
  rw [e]
  omega
theorem i64_id (f : Int) (h1 : -9223372036854775808 ≤ f) (h2 : f ≤ 9223372036854775807) : i64 f = f := i64_of f f 0 (by omega) h1 h2
end BitM

namespace BitM
open Go.Proofs.YtocddhokjhfaaaaDoor
/-- Samples with one step between them, and one value. -/
def evs (f s : Int) (v n : Nat) : List (Int × Nat) := (evens f s n).map fun a => (a, v)
theorem evs_len (f s : Int) (v n : Nat) : (evs f s v n).length = n := by unfold evs; rw [List.length_map, evens_len]
theorem evs_fst (f s : Int) (v n : Nat) : (evs f s v n).map Prod.fst = evens f s n := by
  unfold evs
  rw [List.map_map]
  exact List.map_id _
theorem evs_snd (f s : Int) (v n : Nat) : (evs f s v n).map Prod.snd = List.replicate n v := by
  unfold evs
  rw [List.map_map, List.eq_replicate_iff]
  refine ⟨by rw [List.length_map, evens_len], fun b hb => ?_⟩
  obtain ⟨a, _, rfl⟩ := List.mem_map.1 hb
  rfl
theorem evs_succ (f s : Int) (v k : Nat) : evs f s v (k + 1) = evs f s v k ++ [(i64 (f + k * s), v)] := by
  unfold evs
  show (evens f s k ++ [i64 (f + k * s)]).map _ = _
  rw [List.map_append]
  rfl
theorem evs_range (f s : Int) (v n : Nat) (hv : v < 18446744073709551616) : ∀ p ∈ evs f s v n, (-9223372036854775808 ≤ p.1 ∧ p.1 ≤ 9223372036854775807) ∧ p.2 < 18446744073709551616 := by
  intro p hp
  unfold evs at hp
  obtain ⟨a, ha, rfl⟩ := List.mem_map.1 hp
  exact ⟨evens_range f s n a ha, hv⟩
theorem evs_get (f s : Int) (v n k : Nat) (hk : k < n) : ((evs f s v n).getD k (0, 0)).1 = i64 (f + k * s) := by
  have hl : k < (evens f s n).length := by rw [evens_len]; exact hk
  have h := evens_get f s n k hk
  rw [List.getD_eq_getElem?_getD, List.getElem?_eq_getElem hl, Option.getD_some] at h
  unfold evs
  rw [List.getD_eq_getElem?_getD, List.getElem?_map, List.getElem?_eq_getElem hl]
  exact h
theorem evs_small (f s : Int) (k : Nat) (hf1 : -1099511627776 ≤ f) (hf2 : f ≤ 1099511627776) (hs1 : 1 ≤ s) (hs2 : s ≤ 65536) (hk : k ≤ 200) : i64 (f + k * s) = f + k * s := by
  have h1 : 0 ≤ (k : Int) * s := Int.mul_nonneg (by omega) (by omega)
  have h2 : (k : Int) * s ≤ 200 * 65536 := Int.mul_le_mul (by omega) hs2 (by omega) (by omega)
  exact i64_id _ (by omega) (by omega)
theorem evs_right (f s : Int) (v n : Nat) (hf1 : -1099511627776 ≤ f) (hf2 : f ≤ 1099511627776) (hs1 : 1 ≤ s) (hs2 : s ≤ 65536) (h0 : 0 < n) (hn : n ≤ 200) : rightE (evs f s v n) = 0 := by
  have hl := evs_len f s v n
  unfold rightE
  rw [if_neg (by intro h; rw [h] at hl; simp at hl; omega), if_neg (by omega), if_pos]
  intro k hk
  rw [hl] at hk
  rw [evs_get f s v n k (by omega), evs_get f s v n (k + 1) hk, evs_small f s k hf1 hf2 hs1 hs2 (by omega), evs_small f s (k + 1) hf1 hf2 hs1 hs2 (by omega)]
  have e : ((k + 1 : Nat) : Int) * s = k * s + s := by push_cast; rw [Int.add_mul, Int.one_mul]
  omega
theorem cl_parts (ss : List (Int × Nat)) (k : Nat) : cl ss k = 3 + (twb (ss.map Prod.fst) (k / 4)).length + (vb (ss.map Prod.snd) (k % 4)).length := by
  unfold cl cb
  rw [List.length_append, List.length_append]
  rfl
theorem cl_raw (ss : List (Int × Nat)) : cl ss 0 = 3 + 16 * ss.length := by
  rw [cl_parts]
  show 3 + (zraw (ss.map Prod.fst)).length + (wordsB (ss.map Prod.snd)).length = _
  rw [zraw_len, length_words, List.length_map, List.length_map]
  omega
theorem cl_few (f s : Int) (v n : Nat) (hv : v < 18446744073709551616) (h0 : 0 < n) (hn : n ≤ 200) : cl (evs f s v n) 10 ≤ 56 := by
  rw [cl_parts, evs_fst, evs_snd]
  show 3 + (tby (evens f s n)).length + (RunM.rput (List.replicate n v)).length ≤ 56
  rw [RunM.rput_replicate n v h0, List.length_append]
  have h1 : (VarM.vput n).length ≤ 2 := VarM.vput_len_le 1 n (by omega)
  have h2 : (VarM.vput v).length ≤ 10 := VarM.vput_len10 hv
  have h3 : (tby (evens f s n)).length ≤ 41 := by
    by_cases hn1 : n = 1
    · subst hn1
      rw [tby_even1]
      omega
    · rw [tby_even f s n (by omega)]
      omega
  omega
/-- Samples as cells. -/
def ucs (ss : List (Int × Nat)) : List Go.Value := ss.flatMap fun p => [.int .i64 p.1, .int .u64 (p.2 : Int)]
theorem ucs_len (ss : List (Int × Nat)) : (ucs ss).length = ss.length * 2 := by
  induction ss with
  | nil => rfl
  | cons p ss ih => simp only [ucs, List.flatMap_cons, List.length_append, List.length_cons, List.length_nil] at *; omega
theorem ucs_get : ∀ (ss : List (Int × Nat)) (k : Nat), k < ss.length → (ucs ss)[k * 2]? = some (.int .i64 (ss.getD k (0, 0)).1) ∧ (ucs ss)[k * 2 + 1]? = some (.int .u64 ((ss.getD k (0, 0)).2 : Int))
  | [], k, h => by simp at h
  | p :: ss, 0, _ => ⟨rfl, rfl⟩
  | p :: ss, k + 1, h => by
    have ih := ucs_get ss k (by simpa using h)
    have e : ucs (p :: ss) = [.int .i64 p.1, .int .u64 (p.2 : Int)] ++ ucs ss := by simp only [ucs, List.flatMap_cons]
    rw [e]
    constructor
    · rw [List.getElem?_append_right (by simp only [List.length_cons, List.length_nil]; omega), show (k + 1) * 2 - [Go.Value.int .i64 p.1, .int .u64 (p.2 : Int)].length = k * 2 by simp only [List.length_cons, List.length_nil]; omega, ih.1]
      rfl
    · rw [List.getElem?_append_right (by simp only [List.length_cons, List.length_nil]; omega), show (k + 1) * 2 + 1 - [Go.Value.int .i64 p.1, .int .u64 (p.2 : Int)].length = k * 2 + 1 by simp only [List.length_cons, List.length_nil]; omega, ih.2]
      rfl
theorem ucs_snoc (ss : List (Int × Nat)) (a : Int) (v : Nat) : ucs ss ++ [.int .i64 a, .int .u64 (v : Int)] = ucs (ss ++ [(a, v)]) := by simp [ucs]
end BitM
namespace Go.Proofs.YtocddhokjhfaaaaDoor
open Go.RowKit BitM VarM RunM
set_option linter.unusedVariables false

theorem OwnP.smps {w : World} {base n c : Nat} {A : Option Addr} {ss : List (Int × Nat)} (h : OwnP w base (.slice A n c) n (ucs ss)) (hn : ss.length = n) : SmpsAt w A ss ∧ n ≤ c ∧ c ≤ maxLen := by
  rcases h.2 with ⟨h0, h1⟩ | ⟨g, cap, cur, hv, hb, hh, hn', hm, hs, ht⟩
  · injection h0 with h2 h3 h4
    subst h4
    exact ⟨fun hne => absurd (List.eq_nil_of_length_eq_zero (by omega)) hne, by omega, by unfold maxLen; omega⟩
  · injection hv with h1 h2 h3
    subst h1 h3
    have hc := World.ownsRow.cells (g := g) h rfl
    refine ⟨fun _ => ⟨g, 0, rfl, fun k hk => ?_⟩, hn', hm⟩
    obtain ⟨g1, g2⟩ := ucs_get ss k hk
    have r1 := hc _ _ g1
    have r2 := hc _ _ g2
    rw [Addr.add_mid] at r1 r2
    exact ⟨r1, r2⟩
theorem codec_to (a b z : Int) (a0 : 0 ≤ a) (a4 : a < 4) (b0 : 0 ≤ b) (b4 : b < 4) (hz : 4 * a + b = z) (w : World) : Calls Tryd.prog 18 #[.int .i64 a, .int .i64 b] w fun e w' => e = .returned (.int .i64 z) ∧ w = w' := by
  subst hz
  exact codec_yes a b a0 a4 b0 b4 w
end Go.Proofs.YtocddhokjhfaaaaDoor

namespace Go.Proofs.YtocddhokjhfaaaaDoor
open Go.RowKit BitM VarM RunM Go.Deep
set_option linter.unusedVariables false

theorem smpsRow_of {H : Type} {enc : TypeId × Value → H} {W : World} {base : Nat} {spare : Nat → Bool} {held : Bool} {t e : TypeId} {f0 f1 : Field} {a : Option Addr} {len cap fuel : Nat} {x : DataW H × List MemPlace}
    (ht : Tryd.prog.underlying t = some (.slice e)) (he : Tryd.prog.underlying e = some (.struct #[f0, f1])) (ce : Tryd.prog.cellsOf e = 2) (o0 : f0.offset = 0) (o1 : f1.offset = 1) (c0 : Tryd.prog.cellsOf f0.type = 1) (c1 : Tryd.prog.cellsOf f1.type = 1)
    (u0 : Tryd.prog.underlying f0.type = some (.int .i64)) (u1 : Tryd.prog.underlying f1.type = some (.int .u64))
    (h : DataW.trod enc Tryd.prog W base spare held fuel t [.slice a len cap] = some x) : ∃ ss : List (Int × Nat), ss.length = len ∧ len ≤ cap ∧ cap ≤ maxLen ∧ SmpsAt W a ss ∧ ∀ p ∈ ss, (-9223372036854775808 ≤ p.1 ∧ p.1 ≤ 9223372036854775807) ∧ p.2 < 18446744073709551616 := by
  rcases open_slice_pairs ht he ce o0 o1 c0 c1 h with ⟨hcs, _⟩ | ⟨ad, l, c, m, n, V0, V1, D0, D1, P0, P1, hcs, _, hl, hm, hmm, _, hx⟩
  · simp at hcs
    obtain ⟨rfl, rfl, rfl⟩ := hcs
    exact ⟨[], rfl, Nat.le_refl _, by unfold maxLen; omega, fun h => absurd rfl h, by simp⟩
  · simp at hcs
    obtain ⟨rfl, rfl, rfl⟩ := hcs
    have hlm : len ≤ m := by rw [hmm]; split <;> omega
    have hone : ∀ i, i < len → ∃ q : Int × Nat, ((-9223372036854775808 ≤ q.1 ∧ q.1 ≤ 9223372036854775807) ∧ q.2 < 18446744073709551616) ∧ W.cell? (ad.add (i * 2)) = some (.int .i64 q.1) ∧ W.cell? (ad.add (i * 2 + 1)) = some (.int .u64 (q.2 : Int)) := fun i hi => by
      obtain ⟨e0, e1, t0, t1⟩ := hx i (by omega)
      obtain ⟨n0, g0, _, w0⟩ := DataW.trod_int u0 t0
      obtain ⟨n1, g1, _, w1⟩ := DataW.trod_int u1 t1
      have b0 := bounds_i64 w0
      have b1 := bounds_u64 w1
      simp at g0 g1
      refine ⟨(n0, n1.toNat), ⟨⟨by simp only; omega, by simp only; omega⟩, by simp only; omega⟩, ?_, ?_⟩
      · rw [e0, g0]
      · rw [e1, g1, Int.toNat_of_nonneg (by omega)]
    obtain ⟨q, hq⟩ := choose_lt hone
    refine ⟨(List.range len).map q, by simp, hl, hm, fun hne => ?_, fun y hy => ?_⟩
    · have hpos : 0 < len := by
        rcases Nat.eq_zero_or_pos len with h0 | h0
        · subst h0; simp at hne
        · exact h0
      obtain ⟨b, off, spot⟩ := ad
      have hc0 := (hq 0 hpos).2.1
      have hspot : spot = none := by simpa [Addr.add] using World.cell?_spot hc0
      subst hspot
      refine ⟨b, off, rfl, fun i hi => ?_⟩
      have hi' : i < len := by simpa using hi
      obtain ⟨_, h1, h2⟩ := hq i hi'
      have e : ((List.range len).map q).getD i (0, 0) = q i := by
        rw [List.getD_eq_getElem?_getD, List.getElem?_map, List.getElem?_range hi']
        rfl
      rw [Addr.add_mid] at h1 h2
      rw [e]
      exact ⟨h1, h2⟩
    · obtain ⟨i, hi, rfl⟩ := List.mem_map.1 hy
      exact (hq i (List.mem_range.1 hi)).1

theorem SmpsAt.take {w : World} {A : Option Addr} {ss : List (Int × Nat)} (h : SmpsAt w A ss) (n : Nat) : SmpsAt w A (ss.take n) := fun hne => by
  obtain ⟨b, off, ha, hc⟩ := h (by intro h0; subst h0; simp at hne)
  refine ⟨b, off, ha, fun k hk => ?_⟩
  have hk' : k < n ∧ k < ss.length := by simp at hk; omega
  have e : (ss.take n).getD k (0, 0) = ss.getD k (0, 0) := by
    rw [List.getD_eq_getElem?_getD, List.getD_eq_getElem?_getD, List.getElem?_take_of_lt hk'.1]
  rw [e]
  exact hc k hk'.2
theorem ucs_step (ss : List (Int × Nat)) (k : Nat) (hk : k < ss.length) : ucs (ss.take k) ++ [.int .i64 (ss.getD k (0, 0)).1, .int .u64 ((ss.getD k (0, 0)).2 : Int)] = ucs (ss.take (k + 1)) := by
  rw [List.take_add_one, List.getElem?_eq_getElem hk, List.getD_eq_getElem?_getD, List.getElem?_eq_getElem hk]
  unfold ucs
  rw [List.flatMap_append]
  rfl

set_option maxHeartbeats 800000 in
set_option maxRecDepth 100000 in
theorem refRight_any (A : Option Addr) (n c : Nat) (ss : List (Int × Nat)) (w : World) (hn : ss.length = n) (hx : SmpsAt w A ss) (er : Nat) (he : rightE ss = er) :
    Calls Tryd.prog 13 #[.slice A n c] w fun e w' => e = .returned (.int .i64 (er : Int)) ∧ Below w.heap.size w w' := by
  unfold rightE at he
  by_cases h0 : n = 0
  · subst h0
    obtain rfl : ss = [] := List.eq_nil_of_length_eq_zero hn
    simp at he
    subst he
    go_enter Tryd.func13, Tryd.ntmps13
    go_wp2_with fail
    go_ret
    exact ⟨rfl, Below.refl _ _⟩
  have hne : ss ≠ [] := by intro h; subst h; simp at hn; omega
  have hnz : ((n : Int) == 0) = false := by rw [beq_eq_false_iff_ne]; omega
  rw [if_neg hne, hn] at he
  by_cases h2 : 200 < n
  · rw [if_pos h2] at he
    subst he
    go_enter Tryd.func13, Tryd.ntmps13
    go_wp2_with fail
    go_ret
    exact ⟨rfl, Below.refl _ _⟩
  rw [if_neg h2] at he
  obtain ⟨b, off, rfl, hcell⟩ := hx hne
  have hn200 : n ≤ 200 := by omega
  have HCE := Lib.hid hcell
  have HN := Lib.hid hn
  have HE := Lib.hid he
  clear hcell hn he hx hne h2
  go_enter Tryd.func13, Tryd.ntmps13
  go_wp2_with fail
  go_loopw [3] (fun i wr => ∃ k : Nat, 1 ≤ k ∧ k ≤ n ∧ i = .int .i64 k ∧ Hid (∀ j, j + 1 < k → (ss.getD j (0, 0)).1 < (ss.getD (j + 1) (0, 0)).1) ∧ Below w.heap.size w wr) (fun i _ => n - (intOf i).toNat)
  case atStart => exact ⟨1, by omega, by omega, rfl, Lib.hid (fun j h => by omega), Below.refl _ _⟩
  case round =>
    obtain ⟨k, hk1, hk, rfl, HR, hb⟩ := hrel
    by_cases hlt : k < n
    · have hkn : k < ss.length := by have := HN.out; omega
      obtain ⟨m, hm⟩ : ∃ m, m = k - 1 := ⟨_, rfl⟩
      have hmi : (k : Int) - 1 = (m : Int) := by omega
      have hmk : k = m + 1 := by omega
      have hml : m < n := by omega
      obtain ⟨c1, _⟩ := HCE.out k hkn
      obtain ⟨c0, _⟩ := HCE.out m (by omega)
      obtain ⟨a1, ha1⟩ : ∃ a, a = (ss.getD k (0, 0)).1 := ⟨_, rfl⟩
      obtain ⟨a0, ha0⟩ : ∃ a, a = (ss.getD m (0, 0)).1 := ⟨_, rfl⟩
      rw [← ha1] at c1
      rw [← ha0] at c0
      have d1 := (hb.cell (p := ⟨b, off + k * 2, none⟩) (World.block_lt_of_cell? _ _ c1)).trans c1
      have d0 := (hb.cell (p := ⟨b, off + m * 2, none⟩) (World.block_lt_of_cell? _ _ c0)).trans c0
      have hblr := World.block_lt_of_cell? _ _ d0
      have ke : ∀ y : SubW wr.heap.size wr, y.at_.cell? ⟨b, off + k * 2, none⟩ = some (.int .i64 a1) := fun y => (World.cell?_of_block (a := ⟨b, off + k * 2, none⟩) (y.ok_.block _ hblr)).trans d1
      have kf : ∀ y : SubW wr.heap.size wr, y.at_.cell? ⟨b, off + m * 2, none⟩ = some (.int .i64 a0) := fun y => (World.cell?_of_block (a := ⟨b, off + m * 2, none⟩) (y.ok_.block _ hblr)).trans d0
      have HA1 := Lib.hid ha1
      have HA0 := Lib.hid ha0
      have HMK := Lib.hid hmk
      clear ha1 ha0 hm hmk c0 c1 d0 d1
      go_wp2_with fail
      by_cases hcmp : a1 ≤ a0
      · have hd : decide (a1 ≤ a0) = true := by rw [decide_eq_true_iff]; exact hcmp
        have her : er = 8 := by
          have := HE.out
          rw [if_neg (show ¬ rises ss from fun hr => by have h1 := HMK.out; have := hr m (by omega); rw [← h1, ← HA0.out, ← HA1.out] at this; omega)] at this
          exact this.symm
        subst her
        refine region_over [] [0, 1, 2, 3, 4, 5, 6, 7, 8, 9, 10, 11] (by kernel_rfl) (by kernel_rfl) ?_
        rintro wd hbd
        rw [wpBl_nil]
        simp only [List.map_cons, List.map_nil, opAt, List.getElem?_toArray, List.getElem?_cons_zero, List.getElem?_cons_succ, Option.getD_some]
        repeat (go_big_quiet_step (fail))
        refine wpQuiet_nil ?_
        go_wp2_with fail
        go_ret
        exact ⟨rfl, hb.trans (hbd.mono hb.size)⟩
      · have hd : decide (a1 ≤ a0) = false := by rw [decide_eq_false_iff_not]; exact hcmp
        have HR2 : Hid (∀ j, j + 1 < k + 1 → (ss.getD j (0, 0)).1 < (ss.getD (j + 1) (0, 0)).1) := Lib.hid (fun j hj => by
          rcases Nat.lt_or_ge (j + 1) k with h | h
          · exact HR.out j h
          · have h1 := HMK.out
            obtain rfl : j = m := by omega
            rw [← h1, ← HA0.out, ← HA1.out]; omega)
        refine region_over [] [0, 1, 2, 3, 4, 5, 6, 7, 8, 9, 10, 11] (by kernel_rfl) (by kernel_rfl) ?_
        rintro wd hbd
        rw [wpBl_nil]
        simp only [List.map_cons, List.map_nil, opAt, List.getElem?_toArray, List.getElem?_cons_zero, List.getElem?_cons_succ, Option.getD_some]
        repeat (go_big_quiet_step (fail))
        refine wpQuiet_nil ?_
        go_wp2_with fail
        go_roundw
        case rel => exact ⟨k + 1, by omega, by omega, by go_num, HR2, hb.trans (hbd.mono hb.size)⟩
        case measure => simp [intOf]; omega
    · obtain rfl : k = n := by omega
      have her : er = 0 := by
        have := HE.out
        rw [if_pos (show rises ss from fun j hj => HR.out j (by have := HN.out; omega))] at this
        exact this.symm
      subst her
      go_wp2_with fail
      go_ret
      exact ⟨rfl, hb⟩

set_option maxHeartbeats 800000 in
set_option maxRecDepth 100000 in
theorem to_any (A : Option Addr) (n c : Nat) (ss : List (Int × Nat)) (w : World) (hn : ss.length = n) (hx : SmpsAt w A ss) (hl : n ≤ 1000) :
    Calls Tryd.prog 12 #[.slice A n c] w fun e w' => ∃ A' c', e = .returned (.slice A' n c') ∧ SmpsAt w' A' ss ∧ n ≤ c' ∧ c' ≤ maxLen ∧ Below w.heap.size w w' := by
  have hce : ∀ j, j < n → ∃ b off, A = some ⟨b, off, none⟩ ∧ w.cell? ⟨b, off + j * 2, none⟩ = some (.int .i64 (ss.getD j (0, 0)).1) ∧ w.cell? ⟨b, off + j * 2 + 1, none⟩ = some (.int .u64 ((ss.getD j (0, 0)).2 : Int)) := by
    intro j hj
    obtain ⟨b, off, rfl, h⟩ := hx (by intro h; subst h; simp at hn; omega)
    exact ⟨b, off, rfl, h j (by omega)⟩
  have HCE := Lib.hid hce
  have HN := Lib.hid hn
  obtain ⟨iu, hiu, hzz0, hzz1, hzz2⟩ := info_parts infoSample
  clear hce hx hn
  go_enter Tryd.func12, Tryd.ntmps12
  go_wp2_with fail
  go_loopw [3, 4] (fun l i wr => ∃ (k c' : Nat) (A' : Option Addr), k ≤ n ∧ i = .int .i64 k ∧ l = .slice A' k c' ∧ OwnP wr w.heap.size (.slice A' k c') k (ucs (ss.take k)) ∧ Below w.heap.size w wr) (fun _ i _ => n - (intOf i).toNat)
  case atStart => exact ⟨0, 0, none, by omega, rfl, rfl, by rw [List.take_zero]; exact World.ownsRow_nil _ _ _ _, Below.refl _ _⟩
  case round =>
    obtain ⟨k, c', A', hk, rfl, rfl, ho, hb⟩ := hrel
    have hbs := hb.size
    by_cases hlt : k < n
    · obtain ⟨b, off, rfl, g0, g1⟩ := HCE.out k hlt
      have hsn := ucs_step ss k (by rw [HN.out]; exact hlt)
      obtain ⟨a1, ha1⟩ : ∃ a, a = (ss.getD k (0, 0)).1 := ⟨_, rfl⟩
      obtain ⟨v1, hv1⟩ : ∃ a, a = (ss.getD k (0, 0)).2 := ⟨_, rfl⟩
      rw [← ha1] at g0 hsn
      rw [← hv1] at g1 hsn
      have d0 := (hb.cell (p := ⟨b, off + k * 2, none⟩) (World.block_lt_of_cell? _ _ g0)).trans g0
      have d1 := (hb.cell (p := ⟨b, off + k * 2 + 1, none⟩) (World.block_lt_of_cell? _ _ g1)).trans g1
      have hbw := World.block_lt_of_cell? _ _ g0
      have ke : ∀ y : SubW w.heap.size wr, y.at_.cell? ⟨b, off + k * 2, none⟩ = some (.int .i64 a1) := fun y => (World.cell?_of_block (a := ⟨b, off + k * 2, none⟩) (y.ok_.block _ hbw)).trans d0
      have kf : ∀ y : SubW w.heap.size wr, y.at_.cell? ⟨b, off + k * 2 + 1, none⟩ = some (.int .u64 (v1 : Int)) := fun y => (World.cell?_of_block (a := ⟨b, off + k * 2 + 1, none⟩) (y.ok_.block _ hbw)).trans d1
      have HSN := Lib.hid hsn
      clear hsn ha1 hv1 g0 g1 d0 d1
      go_wp2_with fail
      refine region_overB w.heap.size hb.size [([0, 1, 2, 3, 4, 5, 6, 7, 8, 9, 10], 11), ([], 12), ([], 13)] [14] (by kernel_rfl) (by kernel_rfl) ?_
      rintro wd hbd
      rw [wpBl_cons]
      simp only [List.map_cons, List.map_nil, opAt, List.getElem?_toArray, List.getElem?_cons_zero, List.getElem?_cons_succ, Option.getD_some]
      repeat (go_big_quiet_step (fail))
      refine wpQuiet_nil ?_
      go_wp2_with fail
      refine ⟨⟨⟨_, hbd.mono hb.size⟩, rfl⟩, ?_⟩
      rw [wpBl_cons]
      simp only [List.map_cons, List.map_nil, opAt, List.getElem?_toArray, List.getElem?_cons_zero, List.getElem?_cons_succ, Option.getD_some]
      refine wpQuiet_nil ?_
      go_wp2_with fail
      have hbA0 : Below w.heap.size wr (wd.alloc (.cells #[.int .i64 a1, .int .u64 (v1 : Int)] 49)) := (hbd.mono hb.size).alloc (by have := hbd.size; omega) _
      refine ⟨⟨⟨_, hbA0⟩, rfl⟩, ?_⟩
      have hoA := OwnP.alloc (OwnP.keep ho fun g _ hg => hbd.block g hg) (.cells #[.int .i64 a1, .int .u64 (v1 : Int)] 49)
      have hnews : ∀ (j : Nat) (u : Value), ([.int .i64 a1, .int .u64 (v1 : Int)] : List Value)[j]? = some u → (wd.alloc (.cells #[.int .i64 a1, .int .u64 (v1 : Int)] 49)).cell? ((⟨wd.heap.size, 0, none⟩ : Addr).add j) = some u := by
        intro j u hj
        rw [Addr.add_mid]
        match j, hj with
        | 0, hj => simp at hj; subst hj; rw [World.cell?_alloc_new]; rfl
        | 1, hj => simp at hj; subst hj; rw [World.cell?_alloc_new]; rfl
      have hone : ∀ u ∈ ([.int .i64 a1, .int .u64 (v1 : Int)] : List Value), u.oneCell' = true := by
        intro u hu
        simp at hu
        rcases hu with rfl | rfl <;> rfl
      have hbA : Below w.heap.size w (wd.alloc (.cells #[.int .i64 a1, .int .u64 (v1 : Int)] 49)) := hb.trans hbA0
      rw [wpBl_cons]
      simp only [List.map_nil, opAt, List.getElem?_toArray, List.getElem?_cons_zero, List.getElem?_cons_succ, Option.getD_some]
      refine wpQuiet_nil ?_
      go_wp2_with (at_builtin; refine wpList_append_own_at _ rfl (.tmp 11) (.tmp 23) 37 rfl w.heap.size 49 iu _ 2 16 Tryd.underlying37 hiu hzz0 hzz1 hzz2 rfl (by omega) _ k (ucs (ss.take k)) rfl hoA ⟨wd.heap.size, 0, none⟩ 1 1 [.int .i64 a1, .int .u64 (v1 : Int)] rfl rfl hnews hone (by unfold maxLen; omega) (by omega) hbA.size ?_; rw [HSN.out]; intro v2 w2 ho2 hg2 _ _; obtain ⟨A2, c2, rfl⟩ := OwnP.form (base := w.heap.size) ho2)
      have hb2 : Below w.heap.size w w2 := hbA.grown hg2 hbA.size (fun g hg => ho.base g hg)
      have hbr2 : Below w.heap.size wr w2 := hbA0.grown hg2 hbA.size (fun g hg => ho.base g hg)
      refine ⟨⟨⟨_, hbr2⟩, rfl⟩, ?_⟩
      simp only [Act.put, List.setIfInBounds_toArray, List.set_cons_zero, List.set_cons_succ]
      rw [wpBl_nil]
      simp only [List.map_cons, List.map_nil, opAt, List.getElem?_toArray, List.getElem?_cons_zero, List.getElem?_cons_succ, Option.getD_some]
      repeat (go_big_quiet_step (fail))
      refine wpQuiet_nil ?_
      go_wp2_with fail
      go_roundw
      case rel => exact ⟨k + 1, c2, A2, by omega, by go_num, rfl, ho2, hb2⟩
      case measure => simp [intOf]; omega
    · obtain rfl : k = n := by omega
      rw [List.take_of_length_le (by rw [HN.out]; omega)] at ho
      obtain ⟨h1, h2, h3⟩ := ho.smps HN.out
      go_wp2_with fail
      go_ret
      exact ⟨A', c', rfl, h1, h2, h3, hb⟩
end Go.Proofs.YtocddhokjhfaaaaDoor

namespace Go.Proofs.YtocddhokjhfaaaaDoor
open Go.RowKit BitM VarM RunM
set_option linter.unusedVariables false

theorem infoRefSample : (Tryd.prog.info? 36).map (fun i => (i.zero, i.size, i.bytes)) = some (some (.agg #[.int .i64 0, .int .u64 0]), 2, 16) := by kernel_rfl
def OwnR (w : World) (base : Nat) (v : Value) (n : Nat) (us : List Value) : Prop := w.ownsRow base 36 2 v n us
theorem OwnR.keep {w w' : World} {base n : Nat} {v : Value} {us : List Value} (h : OwnR w base v n us) (e : ∀ g, v.ownBlock = some g → g < w.heap.size → w'.heap[g]? = w.heap[g]?) : OwnR w' base v n us := by
  obtain ⟨h1, h2⟩ := h
  refine ⟨h1, ?_⟩
  rcases h2 with h2 | ⟨g, cap, cur, hv, hb, hh, hr⟩
  · exact .inl h2
  · exact .inr ⟨g, cap, cur, hv, hb, (e g (by rw [hv]; rfl) (Array.getElem?_eq_some_iff.1 hh).1).trans hh, hr⟩
theorem OwnR.alloc {w : World} {base n : Nat} {v : Value} {us : List Value} (h : OwnR w base v n us) (o : Obj) : OwnR (w.alloc o) base v n us := h.keep fun g _ hg => Below.heap_alloc w o g hg
theorem OwnR.base {w : World} {base n : Nat} {v : Value} {us : List Value} (h : OwnR w base v n us) : ∀ g, v.ownBlock = some g → base ≤ g := by
  intro g hg
  rcases h.2 with ⟨rfl, _⟩ | ⟨g', cap, cur, rfl, hb, _⟩
  · simp [Value.ownBlock] at hg
  · simp [Value.ownBlock] at hg
    omega

theorem OwnR.form {w : World} {base n : Nat} {v : Value} {us : List Value} (h : OwnR w base v n us) : ∃ A' c', v = .slice A' n c' := by
  rcases h.2 with ⟨rfl, rfl⟩ | ⟨g, cap, cur, rfl, _⟩
  · exact ⟨none, 0, rfl⟩
  · exact ⟨_, _, rfl⟩

theorem OwnR.smps {w : World} {base n c : Nat} {A : Option Addr} {ss : List (Int × Nat)} (h : OwnR w base (.slice A n c) n (ucs ss)) (hn : ss.length = n) : SmpsAt w A ss ∧ n ≤ c ∧ c ≤ maxLen := by
  rcases h.2 with ⟨h0, h1⟩ | ⟨g, cap, cur, hv, hb, hh, hn', hm, hs, ht⟩
  · injection h0 with h2 h3 h4
    subst h4
    exact ⟨fun hne => absurd (List.eq_nil_of_length_eq_zero (by omega)) hne, by omega, by unfold maxLen; omega⟩
  · injection hv with h1 h2 h3
    subst h1 h3
    have hc := World.ownsRow.cells (g := g) h rfl
    refine ⟨fun _ => ⟨g, 0, rfl, fun k hk => ?_⟩, hn', hm⟩
    obtain ⟨g1, g2⟩ := ucs_get ss k hk
    have r1 := hc _ _ g1
    have r2 := hc _ _ g2
    rw [Addr.add_mid] at r1 r2
    exact ⟨r1, r2⟩

theorem evs_ones (n : Nat) (hn : n ≤ 1000) : ucs (evs 0 1 0 n) ++ [.int .i64 (n : Int), .int .u64 0] = ucs (evs 0 1 0 (n + 1)) := by
  have e : i64 (0 + (n : Int) * 1) = (n : Int) := by
    rw [Int.mul_one, Int.zero_add]
    exact i64_id _ (by omega) (by omega)
  rw [evs_succ, ← ucs_snoc, e]
  rfl
theorem mod2 (a : Int) : ∃ q : Nat, q ≤ 1 ∧ wrap64 ((IntKind.u64.wrap a).tmod 2) = (q : Int) ∧ (0 ≤ a → a ≤ 9223372036854775807 → a % 2 = (q : Int)) := by
  have h0 : 0 ≤ IntKind.u64.wrap a := by rw [IntKind.wrap_u64]; omega
  rw [Int.tmod_eq_emod_of_nonneg h0]
  have h2 : 0 ≤ IntKind.u64.wrap a % 2 := Int.emod_nonneg _ (by omega)
  have h3 : IntKind.u64.wrap a % 2 < 2 := Int.emod_lt_of_pos _ (by omega)
  rw [IntWalk.wrap64_in (IntKind.u64.wrap a % 2) ⟨by omega, by omega⟩]
  refine ⟨(IntKind.u64.wrap a % 2).toNat, by omega, by omega, fun h5 h6 => ?_⟩
  have e : IntKind.u64.wrap a = a := by rw [IntKind.wrap_u64]; omega
  rw [e]
  omega
end Go.Proofs.YtocddhokjhfaaaaDoor

namespace Go.Proofs.YtocddhokjhfaaaaDoor
open Go.RowKit BitM VarM RunM
set_option linter.unusedVariables false

theorem rightE_cases (ss : List (Int × Nat)) : rightE ss = 0 ∨ rightE ss = 6 ∨ rightE ss = 7 ∨ rightE ss = 8 := by
  unfold rightE
  split
  · exact .inr (.inr (.inl rfl))
  · split
    · exact .inr (.inl rfl)
    · split
      · exact .inl rfl
      · exact .inr (.inr (.inr rfl))

set_option maxHeartbeats 4000000 in
set_option maxRecDepth 100000 in
theorem chunkRights_walk (A : Option Addr) (cap0 : Nat) (ss0 : List (Int × Nat)) {w : World} (hx0 : SmpsAt w A ss0) (hr0 : ∀ p ∈ ss0, (-9223372036854775808 ≤ p.1 ∧ p.1 ≤ 9223372036854775807) ∧ p.2 < 18446744073709551616) (hc0 : ss0.length ≤ cap0) (hm0 : cap0 ≤ maxLen) (k : Int) (hk : (Lit.int .i64 k).wf = true) (many : Bool) (htk : TabAt w ∧ KindsAt w) :
    Calls Tryd.prog 5 #[.slice A ss0.length cap0, .int .i64 k, .bool many] w fun e w' => e = .returned (.bool true) ∧ Below w.heap.size w w' := by
  obtain ⟨ht, hkd⟩ := htk
  have HT := Lib.hid ht
  have HK := Lib.hid hkd
  have hkb := bounds_i64 hk
  unfold maxLen at hm0
  clear ht hkd hk
  cases many with
  | false =>
    obtain ⟨ss, hss⟩ : ∃ ss, ss = ss0.take 60 := ⟨_, rfl⟩
    obtain ⟨n, hn⟩ : ∃ n, ss.length = n := ⟨_, rfl⟩
    have hyl : n = min ss0.length 60 := by rw [← hn, hss, List.length_take, Nat.min_comm]
    have hmin : min (ss0.length : Int) 60 = (n : Int) := by omega
    have hnl : n ≤ 60 := by omega
    have hnx : n ≤ ss0.length := by omega
    have hx : SmpsAt w A ss := by rw [hss]; exact hx0.take 60
    have hr : ∀ p ∈ ss, (-9223372036854775808 ≤ p.1 ∧ p.1 ≤ 9223372036854775807) ∧ p.2 < 18446744073709551616 := fun p hp => hr0 p (by rw [hss] at hp; exact List.mem_of_mem_take hp)
    obtain ⟨L, hL⟩ : ∃ L, ss0.length = L := ⟨_, rfl⟩
    rw [hL] at hmin hnx hc0 ⊢
    obtain ⟨c, hc⟩ : ∃ c, c = cap0 := ⟨_, rfl⟩
    subst hc
    obtain ⟨wr, hwr⟩ : ∃ wr, wr = w := ⟨_, rfl⟩
    subst hwr
    have hb : Below wr.heap.size wr wr := Below.refl _ _
    clear hyl hss hx0 hr0
    go_enter Tryd.func5, Tryd.ntmps5
    obtain ⟨er, her⟩ : ∃ er, rightE ss = er := ⟨_, rfl⟩
    obtain ⟨ez, hez⟩ : ∃ ez : Int, (er : Int) = ez := ⟨_, rfl⟩
    have hcz : (er = 0 ∧ ez = 0) ∨ (er = 6 ∧ ez = 6) ∨ (er = 7 ∧ ez = 7) ∨ (er = 8 ∧ ez = 8) := by have := rightE_cases ss; rw [her] at this; omega
    have HTO := Lib.hid (to_any A n c ss wr hn hx (by omega))
    have HRR := Lib.hid (fun (w1 : World) (hb1 : Below wr.heap.size wr w1) => (show Calls Tryd.prog 13 #[.slice A n c] w1 fun e w' => e = .returned (.int .i64 ez) ∧ Below w1.heap.size w1 w' from hez ▸ refRight_any A n c ss w1 hn (hx.below hb1) er her))
    have HCR := Lib.hid (fun (A1 : Option Addr) (c1 : Nat) (w1 : World) (hx1 : SmpsAt w1 A1 ss) (hc1 : n ≤ c1) (hm1 : c1 ≤ maxLen) => (show Calls Tryd.prog 17 #[.slice A1 n c1] w1 fun e w' => e = .returned (.int .i64 ez) ∧ Below w1.heap.size w1 w' from hez ▸ chunkRight_any A1 n c1 ss w1 hn hx1 hc1 hm1 er her))
    have HBB := Lib.hid (fun (A1 : Option Addr) (c1 : Nat) (w1 : World) (hx1 : SmpsAt w1 A1 ss) (hc1 : n ≤ c1) (hm1 : c1 ≤ maxLen) (hne : er ≠ 0) (h8 : er ≤ 8) => (show Calls Tryd.prog 15 #[.slice A1 n c1] w1 fun e w' => e = .returned (.tuple #[.int .i64 0, .int .i64 ez]) ∧ Below w1.heap.size w1 w' from hez ▸ best_bad A1 n c1 ss w1 hn hx1 hc1 hm1 er her hne h8))
    have HBO := Lib.hid (fun (A1 : Option Addr) (c1 : Nat) (w1 : World) (hx1 : SmpsAt w1 A1 ss) (hc1 : n ≤ c1) (hm1 : c1 ≤ maxLen) (h0 : er = 0) (ht1 : TabAt w1) (hk1 : KindsAt w1) => best_ok A1 n c1 ss w1 hn hx1 hc1 hm1 (her.trans h0) hr ht1 hk1)
    have HEB := Lib.hid (fun (A1 : Option Addr) (c1 : Nat) (w1 : World) (hx1 : SmpsAt w1 A1 ss) (hc1 : n ≤ c1) (hm1 : c1 ≤ maxLen) (hk0 : 0 ≤ k) (hk16 : k < 16) (hne : er ≠ 0) (h8 : er ≤ 8) => (show Calls Tryd.prog 14 #[.slice A1 n c1, .int .i64 k] w1 fun e w' => e = .returned (.tuple #[.slice none 0 0, .int .i64 ez]) ∧ Below w1.heap.size w1 w' from hez ▸ encode_bad A1 n c1 k ss w1 hk0 hk16 hn hx1 hc1 hm1 er her hne h8))
    have HEO := Lib.hid (fun (A1 : Option Addr) (c1 : Nat) (w1 : World) (hx1 : SmpsAt w1 A1 ss) (hc1 : n ≤ c1) (hm1 : c1 ≤ maxLen) (j : Nat) (hj : k = (j : Int)) (hj16 : j < 16) (h0 : er = 0) (ht1 : TabAt w1) (hk1 : KindsAt w1) (sz : Nat) (hsz : sz = cl ss j) => encode_ok A1 n c1 j k ss w1 hj hj16 hn hx1 hc1 hm1 (her.trans h0) hr ht1 hk1 _ sz rfl hsz.symm)
    clear hn hx hr her hez
    by_cases k0 : k < 0
    · have d0 : decide (k < 0) = true := decide_eq_true k0
      have KO := Lib.hid (show k < 0 ∨ 15 < k from .inl k0)
      rcases hcz with ⟨rfl, rfl⟩ | ⟨rfl, rfl⟩ | ⟨rfl, rfl⟩ | ⟨rfl, rfl⟩
      · have hx_ := True.intro
        go_wp2_with (first
          | (go_at_call 12; with_reducible refine HTO.out.mono ?_; rintro e w2 ⟨A1, c1, rfl, hx2, hc2, hm2, hb2⟩)
          | (go_at_call 13; with_reducible refine (HRR.out _ hb2).mono ?_; rintro e w3 ⟨rfl, hb3⟩; have hb23 := hb2.trans (hb3.mono hb2.size); have hx3 := hx2.below hb3; have ht3 := HT.out.below (hb.trans (hb23.mono hb.size)); have hk3 := HK.out.below (hb.trans (hb23.mono hb.size)))
          | (go_at_call 14; with_reducible refine (encode_arg A1 n c1 k w3 KO.out).mono ?_; rintro e w4 ⟨rfl, rfl⟩; have hb4 := hb23; have hx4 := hx3; have ht4 := ht3; have hk4 := hk3)
          | (go_at_call 15; with_reducible refine (HBO.out A1 c1 _ hx4 hc2 hm2 (by trivial) ht4 hk4).mono ?_; rintro e w5 ⟨bst, rfl, HBE, hb5i⟩; have hb5 := hb4.trans (hb5i.mono hb4.size); have hx5 := hx4.below hb5i)
          | (go_at_call 16; with_reducible refine (codes_any _).mono ?_; rintro e w6 ⟨rfl, hb6i⟩; have hb6 := hb5.trans (hb6i.mono hb5.size); have hx6 := hx5.below hb6i)
          | (go_at_call 17; with_reducible refine (HCR.out A1 c1 _ hx6 hc2 hm2).mono ?_; rintro e w7 ⟨rfl, hb7i⟩; have hb7 := hb6.trans (hb7i.mono hb6.size)))
        go_ret
        exact ⟨rfl, hb.trans (hb7.mono hb.size)⟩
      · have hx_ := True.intro
        go_wp2_with (first
          | (go_at_call 12; with_reducible refine HTO.out.mono ?_; rintro e w2 ⟨A1, c1, rfl, hx2, hc2, hm2, hb2⟩)
          | (go_at_call 13; with_reducible refine (HRR.out _ hb2).mono ?_; rintro e w3 ⟨rfl, hb3⟩; have hb23 := hb2.trans (hb3.mono hb2.size); have hx3 := hx2.below hb3; have ht3 := HT.out.below (hb.trans (hb23.mono hb.size)); have hk3 := HK.out.below (hb.trans (hb23.mono hb.size)))
          | (go_at_call 14; with_reducible refine (encode_arg A1 n c1 k w3 KO.out).mono ?_; rintro e w4 ⟨rfl, rfl⟩; have hb4 := hb23; have hx4 := hx3; have ht4 := ht3; have hk4 := hk3)
          | (go_at_call 15; with_reducible refine (HBB.out A1 c1 _ hx4 hc2 hm2 (by decide) (by decide)).mono ?_; rintro e w5 ⟨rfl, hb5i⟩; have hb5 := hb4.trans (hb5i.mono hb4.size); have hx5 := hx4.below hb5i)
          | (go_at_call 16; with_reducible refine (codes_any _).mono ?_; rintro e w6 ⟨rfl, hb6i⟩; have hb6 := hb5.trans (hb6i.mono hb5.size); have hx6 := hx5.below hb6i)
          | (go_at_call 17; with_reducible refine (HCR.out A1 c1 _ hx6 hc2 hm2).mono ?_; rintro e w7 ⟨rfl, hb7i⟩; have hb7 := hb6.trans (hb7i.mono hb6.size)))
        go_ret
        exact ⟨rfl, hb.trans (hb7.mono hb.size)⟩
      · have hx_ := True.intro
        go_wp2_with (first
          | (go_at_call 12; with_reducible refine HTO.out.mono ?_; rintro e w2 ⟨A1, c1, rfl, hx2, hc2, hm2, hb2⟩)
          | (go_at_call 13; with_reducible refine (HRR.out _ hb2).mono ?_; rintro e w3 ⟨rfl, hb3⟩; have hb23 := hb2.trans (hb3.mono hb2.size); have hx3 := hx2.below hb3; have ht3 := HT.out.below (hb.trans (hb23.mono hb.size)); have hk3 := HK.out.below (hb.trans (hb23.mono hb.size)))
          | (go_at_call 14; with_reducible refine (encode_arg A1 n c1 k w3 KO.out).mono ?_; rintro e w4 ⟨rfl, rfl⟩; have hb4 := hb23; have hx4 := hx3; have ht4 := ht3; have hk4 := hk3)
          | (go_at_call 15; with_reducible refine (HBB.out A1 c1 _ hx4 hc2 hm2 (by decide) (by decide)).mono ?_; rintro e w5 ⟨rfl, hb5i⟩; have hb5 := hb4.trans (hb5i.mono hb4.size); have hx5 := hx4.below hb5i)
          | (go_at_call 16; with_reducible refine (codes_any _).mono ?_; rintro e w6 ⟨rfl, hb6i⟩; have hb6 := hb5.trans (hb6i.mono hb5.size); have hx6 := hx5.below hb6i)
          | (go_at_call 17; with_reducible refine (HCR.out A1 c1 _ hx6 hc2 hm2).mono ?_; rintro e w7 ⟨rfl, hb7i⟩; have hb7 := hb6.trans (hb7i.mono hb6.size)))
        go_ret
        exact ⟨rfl, hb.trans (hb7.mono hb.size)⟩
      · have hx_ := True.intro
        go_wp2_with (first
          | (go_at_call 12; with_reducible refine HTO.out.mono ?_; rintro e w2 ⟨A1, c1, rfl, hx2, hc2, hm2, hb2⟩)
          | (go_at_call 13; with_reducible refine (HRR.out _ hb2).mono ?_; rintro e w3 ⟨rfl, hb3⟩; have hb23 := hb2.trans (hb3.mono hb2.size); have hx3 := hx2.below hb3; have ht3 := HT.out.below (hb.trans (hb23.mono hb.size)); have hk3 := HK.out.below (hb.trans (hb23.mono hb.size)))
          | (go_at_call 14; with_reducible refine (encode_arg A1 n c1 k w3 KO.out).mono ?_; rintro e w4 ⟨rfl, rfl⟩; have hb4 := hb23; have hx4 := hx3; have ht4 := ht3; have hk4 := hk3)
          | (go_at_call 15; with_reducible refine (HBB.out A1 c1 _ hx4 hc2 hm2 (by decide) (by decide)).mono ?_; rintro e w5 ⟨rfl, hb5i⟩; have hb5 := hb4.trans (hb5i.mono hb4.size); have hx5 := hx4.below hb5i)
          | (go_at_call 16; with_reducible refine (codes_any _).mono ?_; rintro e w6 ⟨rfl, hb6i⟩; have hb6 := hb5.trans (hb6i.mono hb5.size); have hx6 := hx5.below hb6i)
          | (go_at_call 17; with_reducible refine (HCR.out A1 c1 _ hx6 hc2 hm2).mono ?_; rintro e w7 ⟨rfl, hb7i⟩; have hb7 := hb6.trans (hb7i.mono hb6.size)))
        go_ret
        exact ⟨rfl, hb.trans (hb7.mono hb.size)⟩
    · have d0 : decide (k < 0) = false := decide_eq_false k0
      by_cases k15 : 15 < k
      · have d1 : decide (15 < k) = true := decide_eq_true k15
        have KO := Lib.hid (show k < 0 ∨ 15 < k from .inr k15)
        rcases hcz with ⟨rfl, rfl⟩ | ⟨rfl, rfl⟩ | ⟨rfl, rfl⟩ | ⟨rfl, rfl⟩
        · have hx_ := True.intro
          go_wp2_with (first
            | (go_at_call 12; with_reducible refine HTO.out.mono ?_; rintro e w2 ⟨A1, c1, rfl, hx2, hc2, hm2, hb2⟩)
            | (go_at_call 13; with_reducible refine (HRR.out _ hb2).mono ?_; rintro e w3 ⟨rfl, hb3⟩; have hb23 := hb2.trans (hb3.mono hb2.size); have hx3 := hx2.below hb3; have ht3 := HT.out.below (hb.trans (hb23.mono hb.size)); have hk3 := HK.out.below (hb.trans (hb23.mono hb.size)))
            | (go_at_call 14; with_reducible refine (encode_arg A1 n c1 k w3 KO.out).mono ?_; rintro e w4 ⟨rfl, rfl⟩; have hb4 := hb23; have hx4 := hx3; have ht4 := ht3; have hk4 := hk3)
            | (go_at_call 15; with_reducible refine (HBO.out A1 c1 _ hx4 hc2 hm2 (by trivial) ht4 hk4).mono ?_; rintro e w5 ⟨bst, rfl, HBE, hb5i⟩; have hb5 := hb4.trans (hb5i.mono hb4.size); have hx5 := hx4.below hb5i)
            | (go_at_call 16; with_reducible refine (codes_any _).mono ?_; rintro e w6 ⟨rfl, hb6i⟩; have hb6 := hb5.trans (hb6i.mono hb5.size); have hx6 := hx5.below hb6i)
            | (go_at_call 17; with_reducible refine (HCR.out A1 c1 _ hx6 hc2 hm2).mono ?_; rintro e w7 ⟨rfl, hb7i⟩; have hb7 := hb6.trans (hb7i.mono hb6.size)))
          go_ret
          exact ⟨rfl, hb.trans (hb7.mono hb.size)⟩
        · have hx_ := True.intro
          go_wp2_with (first
            | (go_at_call 12; with_reducible refine HTO.out.mono ?_; rintro e w2 ⟨A1, c1, rfl, hx2, hc2, hm2, hb2⟩)
            | (go_at_call 13; with_reducible refine (HRR.out _ hb2).mono ?_; rintro e w3 ⟨rfl, hb3⟩; have hb23 := hb2.trans (hb3.mono hb2.size); have hx3 := hx2.below hb3; have ht3 := HT.out.below (hb.trans (hb23.mono hb.size)); have hk3 := HK.out.below (hb.trans (hb23.mono hb.size)))
            | (go_at_call 14; with_reducible refine (encode_arg A1 n c1 k w3 KO.out).mono ?_; rintro e w4 ⟨rfl, rfl⟩; have hb4 := hb23; have hx4 := hx3; have ht4 := ht3; have hk4 := hk3)
            | (go_at_call 15; with_reducible refine (HBB.out A1 c1 _ hx4 hc2 hm2 (by decide) (by decide)).mono ?_; rintro e w5 ⟨rfl, hb5i⟩; have hb5 := hb4.trans (hb5i.mono hb4.size); have hx5 := hx4.below hb5i)
            | (go_at_call 16; with_reducible refine (codes_any _).mono ?_; rintro e w6 ⟨rfl, hb6i⟩; have hb6 := hb5.trans (hb6i.mono hb5.size); have hx6 := hx5.below hb6i)
            | (go_at_call 17; with_reducible refine (HCR.out A1 c1 _ hx6 hc2 hm2).mono ?_; rintro e w7 ⟨rfl, hb7i⟩; have hb7 := hb6.trans (hb7i.mono hb6.size)))
          go_ret
          exact ⟨rfl, hb.trans (hb7.mono hb.size)⟩
        · have hx_ := True.intro
          go_wp2_with (first
            | (go_at_call 12; with_reducible refine HTO.out.mono ?_; rintro e w2 ⟨A1, c1, rfl, hx2, hc2, hm2, hb2⟩)
            | (go_at_call 13; with_reducible refine (HRR.out _ hb2).mono ?_; rintro e w3 ⟨rfl, hb3⟩; have hb23 := hb2.trans (hb3.mono hb2.size); have hx3 := hx2.below hb3; have ht3 := HT.out.below (hb.trans (hb23.mono hb.size)); have hk3 := HK.out.below (hb.trans (hb23.mono hb.size)))
            | (go_at_call 14; with_reducible refine (encode_arg A1 n c1 k w3 KO.out).mono ?_; rintro e w4 ⟨rfl, rfl⟩; have hb4 := hb23; have hx4 := hx3; have ht4 := ht3; have hk4 := hk3)
            | (go_at_call 15; with_reducible refine (HBB.out A1 c1 _ hx4 hc2 hm2 (by decide) (by decide)).mono ?_; rintro e w5 ⟨rfl, hb5i⟩; have hb5 := hb4.trans (hb5i.mono hb4.size); have hx5 := hx4.below hb5i)
            | (go_at_call 16; with_reducible refine (codes_any _).mono ?_; rintro e w6 ⟨rfl, hb6i⟩; have hb6 := hb5.trans (hb6i.mono hb5.size); have hx6 := hx5.below hb6i)
            | (go_at_call 17; with_reducible refine (HCR.out A1 c1 _ hx6 hc2 hm2).mono ?_; rintro e w7 ⟨rfl, hb7i⟩; have hb7 := hb6.trans (hb7i.mono hb6.size)))
          go_ret
          exact ⟨rfl, hb.trans (hb7.mono hb.size)⟩
        · have hx_ := True.intro
          go_wp2_with (first
            | (go_at_call 12; with_reducible refine HTO.out.mono ?_; rintro e w2 ⟨A1, c1, rfl, hx2, hc2, hm2, hb2⟩)
            | (go_at_call 13; with_reducible refine (HRR.out _ hb2).mono ?_; rintro e w3 ⟨rfl, hb3⟩; have hb23 := hb2.trans (hb3.mono hb2.size); have hx3 := hx2.below hb3; have ht3 := HT.out.below (hb.trans (hb23.mono hb.size)); have hk3 := HK.out.below (hb.trans (hb23.mono hb.size)))
            | (go_at_call 14; with_reducible refine (encode_arg A1 n c1 k w3 KO.out).mono ?_; rintro e w4 ⟨rfl, rfl⟩; have hb4 := hb23; have hx4 := hx3; have ht4 := ht3; have hk4 := hk3)
            | (go_at_call 15; with_reducible refine (HBB.out A1 c1 _ hx4 hc2 hm2 (by decide) (by decide)).mono ?_; rintro e w5 ⟨rfl, hb5i⟩; have hb5 := hb4.trans (hb5i.mono hb4.size); have hx5 := hx4.below hb5i)
            | (go_at_call 16; with_reducible refine (codes_any _).mono ?_; rintro e w6 ⟨rfl, hb6i⟩; have hb6 := hb5.trans (hb6i.mono hb5.size); have hx6 := hx5.below hb6i)
            | (go_at_call 17; with_reducible refine (HCR.out A1 c1 _ hx6 hc2 hm2).mono ?_; rintro e w7 ⟨rfl, hb7i⟩; have hb7 := hb6.trans (hb7i.mono hb6.size)))
          go_ret
          exact ⟨rfl, hb.trans (hb7.mono hb.size)⟩
      · have d1 : decide (15 < k) = false := decide_eq_false k15
        have KI := Lib.hid (show 0 ≤ k ∧ k < 16 from ⟨by omega, by omega⟩)
        rcases hcz with ⟨rfl, rfl⟩ | ⟨rfl, rfl⟩ | ⟨rfl, rfl⟩ | ⟨rfl, rfl⟩
        · have hx_ := True.intro
          have KN := Lib.hid (show k = (k.toNat : Int) ∧ k.toNat < 16 from ⟨by omega, by omega⟩)
          obtain ⟨sz, hsz⟩ : ∃ sz, sz = cl ss k.toNat := ⟨_, rfl⟩
          have hsz0 : 0 < sz := by rw [hsz, cl_parts]; omega
          have hsz1 : decide (0 < sz) = true := decide_eq_true hsz0
          have hsz2 : decide ((0 : Int) < (sz : Int)) = true := by rw [decide_eq_true_iff]; omega
          have HSZ := Lib.hid hsz
          clear hsz
          go_wp2_with (first
            | (go_at_call 12; with_reducible refine HTO.out.mono ?_; rintro e w2 ⟨A1, c1, rfl, hx2, hc2, hm2, hb2⟩)
            | (go_at_call 13; with_reducible refine (HRR.out _ hb2).mono ?_; rintro e w3 ⟨rfl, hb3⟩; have hb23 := hb2.trans (hb3.mono hb2.size); have hx3 := hx2.below hb3; have ht3 := HT.out.below (hb.trans (hb23.mono hb.size)); have hk3 := HK.out.below (hb.trans (hb23.mono hb.size)))
            | (go_at_call 14; with_reducible refine (HEO.out A1 c1 w3 hx3 hc2 hm2 k.toNat KN.out.1 KN.out.2 (by trivial) ht3 hk3 sz HSZ.out).mono ?_; rintro e w4 ⟨A4, c4, rfl, hx4b, hc4b, hm4b, hb4i⟩; have hb4 := hb23.trans (hb4i.mono hb23.size); have hx4 := hx3.below hb4i; have ht4 := ht3.below hb4i; have hk4 := hk3.below hb4i)
            | (go_at_call 15; with_reducible refine (HBO.out A1 c1 _ hx4 hc2 hm2 (by trivial) ht4 hk4).mono ?_; rintro e w5 ⟨bst, rfl, HBE, hb5i⟩; have hb5 := hb4.trans (hb5i.mono hb4.size); have hx5 := hx4.below hb5i)
            | (go_at_call 16; with_reducible refine (codes_any _).mono ?_; rintro e w6 ⟨rfl, hb6i⟩; have hb6 := hb5.trans (hb6i.mono hb5.size); have hx6 := hx5.below hb6i)
            | (go_at_call 17; with_reducible refine (HCR.out A1 c1 _ hx6 hc2 hm2).mono ?_; rintro e w7 ⟨rfl, hb7i⟩; have hb7 := hb6.trans (hb7i.mono hb6.size)))
          go_ret
          exact ⟨rfl, hb.trans (hb7.mono hb.size)⟩
        · have hx_ := True.intro
          go_wp2_with (first
            | (go_at_call 12; with_reducible refine HTO.out.mono ?_; rintro e w2 ⟨A1, c1, rfl, hx2, hc2, hm2, hb2⟩)
            | (go_at_call 13; with_reducible refine (HRR.out _ hb2).mono ?_; rintro e w3 ⟨rfl, hb3⟩; have hb23 := hb2.trans (hb3.mono hb2.size); have hx3 := hx2.below hb3; have ht3 := HT.out.below (hb.trans (hb23.mono hb.size)); have hk3 := HK.out.below (hb.trans (hb23.mono hb.size)))
            | (go_at_call 14; with_reducible refine (HEB.out A1 c1 w3 hx3 hc2 hm2 KI.out.1 KI.out.2 (by decide) (by decide)).mono ?_; rintro e w4 ⟨rfl, hb4i⟩; have hb4 := hb23.trans (hb4i.mono hb23.size); have hx4 := hx3.below hb4i; have ht4 := ht3.below hb4i; have hk4 := hk3.below hb4i)
            | (go_at_call 15; with_reducible refine (HBB.out A1 c1 _ hx4 hc2 hm2 (by decide) (by decide)).mono ?_; rintro e w5 ⟨rfl, hb5i⟩; have hb5 := hb4.trans (hb5i.mono hb4.size); have hx5 := hx4.below hb5i)
            | (go_at_call 16; with_reducible refine (codes_any _).mono ?_; rintro e w6 ⟨rfl, hb6i⟩; have hb6 := hb5.trans (hb6i.mono hb5.size); have hx6 := hx5.below hb6i)
            | (go_at_call 17; with_reducible refine (HCR.out A1 c1 _ hx6 hc2 hm2).mono ?_; rintro e w7 ⟨rfl, hb7i⟩; have hb7 := hb6.trans (hb7i.mono hb6.size)))
          go_ret
          exact ⟨rfl, hb.trans (hb7.mono hb.size)⟩
        · have hx_ := True.intro
          go_wp2_with (first
            | (go_at_call 12; with_reducible refine HTO.out.mono ?_; rintro e w2 ⟨A1, c1, rfl, hx2, hc2, hm2, hb2⟩)
            | (go_at_call 13; with_reducible refine (HRR.out _ hb2).mono ?_; rintro e w3 ⟨rfl, hb3⟩; have hb23 := hb2.trans (hb3.mono hb2.size); have hx3 := hx2.below hb3; have ht3 := HT.out.below (hb.trans (hb23.mono hb.size)); have hk3 := HK.out.below (hb.trans (hb23.mono hb.size)))
            | (go_at_call 14; with_reducible refine (HEB.out A1 c1 w3 hx3 hc2 hm2 KI.out.1 KI.out.2 (by decide) (by decide)).mono ?_; rintro e w4 ⟨rfl, hb4i⟩; have hb4 := hb23.trans (hb4i.mono hb23.size); have hx4 := hx3.below hb4i; have ht4 := ht3.below hb4i; have hk4 := hk3.below hb4i)
            | (go_at_call 15; with_reducible refine (HBB.out A1 c1 _ hx4 hc2 hm2 (by decide) (by decide)).mono ?_; rintro e w5 ⟨rfl, hb5i⟩; have hb5 := hb4.trans (hb5i.mono hb4.size); have hx5 := hx4.below hb5i)
            | (go_at_call 16; with_reducible refine (codes_any _).mono ?_; rintro e w6 ⟨rfl, hb6i⟩; have hb6 := hb5.trans (hb6i.mono hb5.size); have hx6 := hx5.below hb6i)
            | (go_at_call 17; with_reducible refine (HCR.out A1 c1 _ hx6 hc2 hm2).mono ?_; rintro e w7 ⟨rfl, hb7i⟩; have hb7 := hb6.trans (hb7i.mono hb6.size)))
          go_ret
          exact ⟨rfl, hb.trans (hb7.mono hb.size)⟩
        · have hx_ := True.intro
          go_wp2_with (first
            | (go_at_call 12; with_reducible refine HTO.out.mono ?_; rintro e w2 ⟨A1, c1, rfl, hx2, hc2, hm2, hb2⟩)
            | (go_at_call 13; with_reducible refine (HRR.out _ hb2).mono ?_; rintro e w3 ⟨rfl, hb3⟩; have hb23 := hb2.trans (hb3.mono hb2.size); have hx3 := hx2.below hb3; have ht3 := HT.out.below (hb.trans (hb23.mono hb.size)); have hk3 := HK.out.below (hb.trans (hb23.mono hb.size)))
            | (go_at_call 14; with_reducible refine (HEB.out A1 c1 w3 hx3 hc2 hm2 KI.out.1 KI.out.2 (by decide) (by decide)).mono ?_; rintro e w4 ⟨rfl, hb4i⟩; have hb4 := hb23.trans (hb4i.mono hb23.size); have hx4 := hx3.below hb4i; have ht4 := ht3.below hb4i; have hk4 := hk3.below hb4i)
            | (go_at_call 15; with_reducible refine (HBB.out A1 c1 _ hx4 hc2 hm2 (by decide) (by decide)).mono ?_; rintro e w5 ⟨rfl, hb5i⟩; have hb5 := hb4.trans (hb5i.mono hb4.size); have hx5 := hx4.below hb5i)
            | (go_at_call 16; with_reducible refine (codes_any _).mono ?_; rintro e w6 ⟨rfl, hb6i⟩; have hb6 := hb5.trans (hb6i.mono hb5.size); have hx6 := hx5.below hb6i)
            | (go_at_call 17; with_reducible refine (HCR.out A1 c1 _ hx6 hc2 hm2).mono ?_; rintro e w7 ⟨rfl, hb7i⟩; have hb7 := hb6.trans (hb7i.mono hb6.size)))
          go_ret
          exact ⟨rfl, hb.trans (hb7.mono hb.size)⟩
  | true =>
    obtain ⟨q, hq1, hq, hkm⟩ := mod2 k
    have HKM := Lib.hid hkm
    clear hkm
    obtain ⟨N, hN⟩ : ∃ N, N = 200 + q := ⟨_, rfl⟩
    have hNi : (200 : Int) + (q : Int) = (N : Int) := by omega
    have hN2 : N ≤ 201 := by omega
    obtain ⟨n0, hyl⟩ : ∃ n0, n0 = min ss0.length 60 := ⟨_, rfl⟩
    have hmin : min (ss0.length : Int) 60 = (n0 : Int) := by omega
    have hnl : n0 ≤ 60 := by omega
    have hnx : n0 ≤ ss0.length := by omega
    obtain ⟨L, hL⟩ : ∃ L, ss0.length = L := ⟨_, rfl⟩
    rw [hL] at hmin hnx hc0 ⊢
    obtain ⟨iu, hiu, hzz0, hzz1, hzz2⟩ := info_parts infoRefSample
    clear hyl hx0 hr0 hN
    go_enter Tryd.func5, Tryd.ntmps5
    go_wp2_with fail
    go_loopw [0, 7] (fun l i wr => ∃ (n c : Nat) (A : Option Addr), n ≤ N ∧ i = .int .i64 n ∧ l = .slice A n c ∧ OwnR wr w.heap.size (.slice A n c) n (ucs (evs 0 1 0 n)) ∧ Below w.heap.size w wr) (fun _ i _ => N - (intOf i).toNat)
    case atStart => exact ⟨0, 0, none, by omega, rfl, rfl, World.ownsRow_nil _ _ _ _, Below.refl _ _⟩
    case round =>
      obtain ⟨n, c, A, hnN, rfl, rfl, ho, hb⟩ := hrel
      have hbs := hb.size
      by_cases hlt : n < N
      · have hsn := evs_ones n (by omega)
        have HSN := Lib.hid hsn
        clear hsn
        have hoA := ho.alloc (.cells #[.int .i64 (n : Int), .int .u64 0] 36)
        have hnews : ∀ (j : Nat) (u : Value), ([.int .i64 (n : Int), .int .u64 0] : List Value)[j]? = some u → (wr.alloc (.cells #[.int .i64 (n : Int), .int .u64 0] 36)).cell? ((⟨wr.heap.size, 0, none⟩ : Addr).add j) = some u := by
          intro j u hj
          rw [Addr.add_mid]
          match j, hj with
          | 0, hj => simp at hj; subst hj; rw [World.cell?_alloc_new]; rfl
          | 1, hj => simp at hj; subst hj; rw [World.cell?_alloc_new]; rfl
        have hone : ∀ u ∈ ([.int .i64 (n : Int), .int .u64 0] : List Value), u.oneCell' = true := by
          intro u hu
          simp at hu
          rcases hu with rfl | rfl <;> rfl
        have hbA : Below w.heap.size w (wr.alloc (.cells #[.int .i64 (n : Int), .int .u64 0] 36)) := hb.alloc hb.size _
        go_wp2_with (at_builtin; go_loud (refine wpList_append_own_at _ rfl (.tmp 29) (.tmp 32) 34 rfl w.heap.size 36 iu _ 2 16 Tryd.underlying34 hiu hzz0 hzz1 hzz2 rfl (by omega) _ n (ucs (evs 0 1 0 n)) rfl hoA ⟨wr.heap.size, 0, none⟩ 1 1 [.int .i64 (n : Int), .int .u64 0] rfl rfl hnews hone (by unfold maxLen; omega) (by omega) hbA.size ?_); rw [HSN.out]; intro v2 w2 ho2 hg2 _ _; obtain ⟨A2, c2, rfl⟩ := OwnR.form (base := w.heap.size) ho2)
        go_roundw
        case rel =>
          have hb2 : Below w.heap.size w w2 := hbA.grown hg2 hbA.size (fun g hg => ho.base g hg)
          exact ⟨n + 1, c2, A2, by omega, by go_num, rfl, ho2, hb2⟩
        case measure => simp [intOf]; omega
      · obtain ⟨ss, hss⟩ : ∃ ss, ss = evs 0 1 0 n := ⟨_, rfl⟩
        rw [← hss] at ho
        have hn : ss.length = n := by rw [hss, evs_len]
        obtain ⟨hx, _, _⟩ := ho.smps hn
        have hr : ∀ p ∈ ss, (-9223372036854775808 ≤ p.1 ∧ p.1 ≤ 9223372036854775807) ∧ p.2 < 18446744073709551616 := by rw [hss]; exact evs_range 0 1 0 n (by omega)
        clear hss ho
        obtain ⟨er, her⟩ : ∃ er, rightE ss = er := ⟨_, rfl⟩
        obtain ⟨ez, hez⟩ : ∃ ez : Int, (er : Int) = ez := ⟨_, rfl⟩
        have hcz : (er = 0 ∧ ez = 0) ∨ (er = 6 ∧ ez = 6) ∨ (er = 7 ∧ ez = 7) ∨ (er = 8 ∧ ez = 8) := by have := rightE_cases ss; rw [her] at this; omega
        have HTO := Lib.hid (to_any A n c ss wr hn hx (by omega))
        have HRR := Lib.hid (fun (w1 : World) (hb1 : Below wr.heap.size wr w1) => (show Calls Tryd.prog 13 #[.slice A n c] w1 fun e w' => e = .returned (.int .i64 ez) ∧ Below w1.heap.size w1 w' from hez ▸ refRight_any A n c ss w1 hn (hx.below hb1) er her))
        have HCR := Lib.hid (fun (A1 : Option Addr) (c1 : Nat) (w1 : World) (hx1 : SmpsAt w1 A1 ss) (hc1 : n ≤ c1) (hm1 : c1 ≤ maxLen) => (show Calls Tryd.prog 17 #[.slice A1 n c1] w1 fun e w' => e = .returned (.int .i64 ez) ∧ Below w1.heap.size w1 w' from hez ▸ chunkRight_any A1 n c1 ss w1 hn hx1 hc1 hm1 er her))
        have HBB := Lib.hid (fun (A1 : Option Addr) (c1 : Nat) (w1 : World) (hx1 : SmpsAt w1 A1 ss) (hc1 : n ≤ c1) (hm1 : c1 ≤ maxLen) (hne : er ≠ 0) (h8 : er ≤ 8) => (show Calls Tryd.prog 15 #[.slice A1 n c1] w1 fun e w' => e = .returned (.tuple #[.int .i64 0, .int .i64 ez]) ∧ Below w1.heap.size w1 w' from hez ▸ best_bad A1 n c1 ss w1 hn hx1 hc1 hm1 er her hne h8))
        have HBO := Lib.hid (fun (A1 : Option Addr) (c1 : Nat) (w1 : World) (hx1 : SmpsAt w1 A1 ss) (hc1 : n ≤ c1) (hm1 : c1 ≤ maxLen) (h0 : er = 0) (ht1 : TabAt w1) (hk1 : KindsAt w1) => best_ok A1 n c1 ss w1 hn hx1 hc1 hm1 (her.trans h0) hr ht1 hk1)
        have HEB := Lib.hid (fun (A1 : Option Addr) (c1 : Nat) (w1 : World) (hx1 : SmpsAt w1 A1 ss) (hc1 : n ≤ c1) (hm1 : c1 ≤ maxLen) (hk0 : 0 ≤ k) (hk16 : k < 16) (hne : er ≠ 0) (h8 : er ≤ 8) => (show Calls Tryd.prog 14 #[.slice A1 n c1, .int .i64 k] w1 fun e w' => e = .returned (.tuple #[.slice none 0 0, .int .i64 ez]) ∧ Below w1.heap.size w1 w' from hez ▸ encode_bad A1 n c1 k ss w1 hk0 hk16 hn hx1 hc1 hm1 er her hne h8))
        have HEO := Lib.hid (fun (A1 : Option Addr) (c1 : Nat) (w1 : World) (hx1 : SmpsAt w1 A1 ss) (hc1 : n ≤ c1) (hm1 : c1 ≤ maxLen) (j : Nat) (hj : k = (j : Int)) (hj16 : j < 16) (h0 : er = 0) (ht1 : TabAt w1) (hk1 : KindsAt w1) (sz : Nat) (hsz : sz = cl ss j) => encode_ok A1 n c1 j k ss w1 hj hj16 hn hx1 hc1 hm1 (her.trans h0) hr ht1 hk1 _ sz rfl hsz.symm)
        clear hn hx hr her hez
        by_cases k0 : k < 0
        · have d0 : decide (k < 0) = true := decide_eq_true k0
          have KO := Lib.hid (show k < 0 ∨ 15 < k from .inl k0)
          rcases hcz with ⟨rfl, rfl⟩ | ⟨rfl, rfl⟩ | ⟨rfl, rfl⟩ | ⟨rfl, rfl⟩
          · have hx_ := True.intro
            go_wp2_with (first
              | (go_at_call 12; with_reducible refine HTO.out.mono ?_; rintro e w2 ⟨A1, c1, rfl, hx2, hc2, hm2, hb2⟩)
              | (go_at_call 13; with_reducible refine (HRR.out _ hb2).mono ?_; rintro e w3 ⟨rfl, hb3⟩; have hb23 := hb2.trans (hb3.mono hb2.size); have hx3 := hx2.below hb3; have ht3 := HT.out.below (hb.trans (hb23.mono hb.size)); have hk3 := HK.out.below (hb.trans (hb23.mono hb.size)))
              | (go_at_call 14; with_reducible refine (encode_arg A1 n c1 k w3 KO.out).mono ?_; rintro e w4 ⟨rfl, rfl⟩; have hb4 := hb23; have hx4 := hx3; have ht4 := ht3; have hk4 := hk3)
              | (go_at_call 15; with_reducible refine (HBO.out A1 c1 _ hx4 hc2 hm2 (by trivial) ht4 hk4).mono ?_; rintro e w5 ⟨bst, rfl, HBE, hb5i⟩; have hb5 := hb4.trans (hb5i.mono hb4.size); have hx5 := hx4.below hb5i)
              | (go_at_call 16; with_reducible refine (codes_any _).mono ?_; rintro e w6 ⟨rfl, hb6i⟩; have hb6 := hb5.trans (hb6i.mono hb5.size); have hx6 := hx5.below hb6i)
              | (go_at_call 17; with_reducible refine (HCR.out A1 c1 _ hx6 hc2 hm2).mono ?_; rintro e w7 ⟨rfl, hb7i⟩; have hb7 := hb6.trans (hb7i.mono hb6.size)))
            go_ret
            exact ⟨rfl, hb.trans (hb7.mono hb.size)⟩
          · have hx_ := True.intro
            go_wp2_with (first
              | (go_at_call 12; with_reducible refine HTO.out.mono ?_; rintro e w2 ⟨A1, c1, rfl, hx2, hc2, hm2, hb2⟩)
              | (go_at_call 13; with_reducible refine (HRR.out _ hb2).mono ?_; rintro e w3 ⟨rfl, hb3⟩; have hb23 := hb2.trans (hb3.mono hb2.size); have hx3 := hx2.below hb3; have ht3 := HT.out.below (hb.trans (hb23.mono hb.size)); have hk3 := HK.out.below (hb.trans (hb23.mono hb.size)))
              | (go_at_call 14; with_reducible refine (encode_arg A1 n c1 k w3 KO.out).mono ?_; rintro e w4 ⟨rfl, rfl⟩; have hb4 := hb23; have hx4 := hx3; have ht4 := ht3; have hk4 := hk3)
              | (go_at_call 15; with_reducible refine (HBB.out A1 c1 _ hx4 hc2 hm2 (by decide) (by decide)).mono ?_; rintro e w5 ⟨rfl, hb5i⟩; have hb5 := hb4.trans (hb5i.mono hb4.size); have hx5 := hx4.below hb5i)
              | (go_at_call 16; with_reducible refine (codes_any _).mono ?_; rintro e w6 ⟨rfl, hb6i⟩; have hb6 := hb5.trans (hb6i.mono hb5.size); have hx6 := hx5.below hb6i)
              | (go_at_call 17; with_reducible refine (HCR.out A1 c1 _ hx6 hc2 hm2).mono ?_; rintro e w7 ⟨rfl, hb7i⟩; have hb7 := hb6.trans (hb7i.mono hb6.size)))
            go_ret
            exact ⟨rfl, hb.trans (hb7.mono hb.size)⟩
          · have hx_ := True.intro
            go_wp2_with (first
              | (go_at_call 12; with_reducible refine HTO.out.mono ?_; rintro e w2 ⟨A1, c1, rfl, hx2, hc2, hm2, hb2⟩)
              | (go_at_call 13; with_reducible refine (HRR.out _ hb2).mono ?_; rintro e w3 ⟨rfl, hb3⟩; have hb23 := hb2.trans (hb3.mono hb2.size); have hx3 := hx2.below hb3; have ht3 := HT.out.below (hb.trans (hb23.mono hb.size)); have hk3 := HK.out.below (hb.trans (hb23.mono hb.size)))
              | (go_at_call 14; with_reducible refine (encode_arg A1 n c1 k w3 KO.out).mono ?_; rintro e w4 ⟨rfl, rfl⟩; have hb4 := hb23; have hx4 := hx3; have ht4 := ht3; have hk4 := hk3)
              | (go_at_call 15; with_reducible refine (HBB.out A1 c1 _ hx4 hc2 hm2 (by decide) (by decide)).mono ?_; rintro e w5 ⟨rfl, hb5i⟩; have hb5 := hb4.trans (hb5i.mono hb4.size); have hx5 := hx4.below hb5i)
              | (go_at_call 16; with_reducible refine (codes_any _).mono ?_; rintro e w6 ⟨rfl, hb6i⟩; have hb6 := hb5.trans (hb6i.mono hb5.size); have hx6 := hx5.below hb6i)
              | (go_at_call 17; with_reducible refine (HCR.out A1 c1 _ hx6 hc2 hm2).mono ?_; rintro e w7 ⟨rfl, hb7i⟩; have hb7 := hb6.trans (hb7i.mono hb6.size)))
            go_ret
            exact ⟨rfl, hb.trans (hb7.mono hb.size)⟩
          · have hx_ := True.intro
            go_wp2_with (first
              | (go_at_call 12; with_reducible refine HTO.out.mono ?_; rintro e w2 ⟨A1, c1, rfl, hx2, hc2, hm2, hb2⟩)
              | (go_at_call 13; with_reducible refine (HRR.out _ hb2).mono ?_; rintro e w3 ⟨rfl, hb3⟩; have hb23 := hb2.trans (hb3.mono hb2.size); have hx3 := hx2.below hb3; have ht3 := HT.out.below (hb.trans (hb23.mono hb.size)); have hk3 := HK.out.below (hb.trans (hb23.mono hb.size)))
              | (go_at_call 14; with_reducible refine (encode_arg A1 n c1 k w3 KO.out).mono ?_; rintro e w4 ⟨rfl, rfl⟩; have hb4 := hb23; have hx4 := hx3; have ht4 := ht3; have hk4 := hk3)
              | (go_at_call 15; with_reducible refine (HBB.out A1 c1 _ hx4 hc2 hm2 (by decide) (by decide)).mono ?_; rintro e w5 ⟨rfl, hb5i⟩; have hb5 := hb4.trans (hb5i.mono hb4.size); have hx5 := hx4.below hb5i)
              | (go_at_call 16; with_reducible refine (codes_any _).mono ?_; rintro e w6 ⟨rfl, hb6i⟩; have hb6 := hb5.trans (hb6i.mono hb5.size); have hx6 := hx5.below hb6i)
              | (go_at_call 17; with_reducible refine (HCR.out A1 c1 _ hx6 hc2 hm2).mono ?_; rintro e w7 ⟨rfl, hb7i⟩; have hb7 := hb6.trans (hb7i.mono hb6.size)))
            go_ret
            exact ⟨rfl, hb.trans (hb7.mono hb.size)⟩
        · have d0 : decide (k < 0) = false := decide_eq_false k0
          have hkq : k % 2 = (q : Int) := HKM.out (by omega) (by omega)
          by_cases k15 : 15 < k
          · have d1 : decide (15 < k) = true := decide_eq_true k15
            have KO := Lib.hid (show k < 0 ∨ 15 < k from .inr k15)
            rcases hcz with ⟨rfl, rfl⟩ | ⟨rfl, rfl⟩ | ⟨rfl, rfl⟩ | ⟨rfl, rfl⟩
            · have hx_ := True.intro
              go_wp2_with (first
                | (go_at_call 12; with_reducible refine HTO.out.mono ?_; rintro e w2 ⟨A1, c1, rfl, hx2, hc2, hm2, hb2⟩)
                | (go_at_call 13; with_reducible refine (HRR.out _ hb2).mono ?_; rintro e w3 ⟨rfl, hb3⟩; have hb23 := hb2.trans (hb3.mono hb2.size); have hx3 := hx2.below hb3; have ht3 := HT.out.below (hb.trans (hb23.mono hb.size)); have hk3 := HK.out.below (hb.trans (hb23.mono hb.size)))
                | (go_at_call 14; with_reducible refine (encode_arg A1 n c1 k w3 KO.out).mono ?_; rintro e w4 ⟨rfl, rfl⟩; have hb4 := hb23; have hx4 := hx3; have ht4 := ht3; have hk4 := hk3)
                | (go_at_call 15; with_reducible refine (HBO.out A1 c1 _ hx4 hc2 hm2 (by trivial) ht4 hk4).mono ?_; rintro e w5 ⟨bst, rfl, HBE, hb5i⟩; have hb5 := hb4.trans (hb5i.mono hb4.size); have hx5 := hx4.below hb5i)
                | (go_at_call 16; with_reducible refine (codes_any _).mono ?_; rintro e w6 ⟨rfl, hb6i⟩; have hb6 := hb5.trans (hb6i.mono hb5.size); have hx6 := hx5.below hb6i)
                | (go_at_call 17; with_reducible refine (HCR.out A1 c1 _ hx6 hc2 hm2).mono ?_; rintro e w7 ⟨rfl, hb7i⟩; have hb7 := hb6.trans (hb7i.mono hb6.size)))
              go_ret
              exact ⟨rfl, hb.trans (hb7.mono hb.size)⟩
            · have hx_ := True.intro
              go_wp2_with (first
                | (go_at_call 12; with_reducible refine HTO.out.mono ?_; rintro e w2 ⟨A1, c1, rfl, hx2, hc2, hm2, hb2⟩)
                | (go_at_call 13; with_reducible refine (HRR.out _ hb2).mono ?_; rintro e w3 ⟨rfl, hb3⟩; have hb23 := hb2.trans (hb3.mono hb2.size); have hx3 := hx2.below hb3; have ht3 := HT.out.below (hb.trans (hb23.mono hb.size)); have hk3 := HK.out.below (hb.trans (hb23.mono hb.size)))
                | (go_at_call 14; with_reducible refine (encode_arg A1 n c1 k w3 KO.out).mono ?_; rintro e w4 ⟨rfl, rfl⟩; have hb4 := hb23; have hx4 := hx3; have ht4 := ht3; have hk4 := hk3)
                | (go_at_call 15; with_reducible refine (HBB.out A1 c1 _ hx4 hc2 hm2 (by decide) (by decide)).mono ?_; rintro e w5 ⟨rfl, hb5i⟩; have hb5 := hb4.trans (hb5i.mono hb4.size); have hx5 := hx4.below hb5i)
                | (go_at_call 16; with_reducible refine (codes_any _).mono ?_; rintro e w6 ⟨rfl, hb6i⟩; have hb6 := hb5.trans (hb6i.mono hb5.size); have hx6 := hx5.below hb6i)
                | (go_at_call 17; with_reducible refine (HCR.out A1 c1 _ hx6 hc2 hm2).mono ?_; rintro e w7 ⟨rfl, hb7i⟩; have hb7 := hb6.trans (hb7i.mono hb6.size)))
              go_ret
              exact ⟨rfl, hb.trans (hb7.mono hb.size)⟩
            · have hx_ := True.intro
              go_wp2_with (first
                | (go_at_call 12; with_reducible refine HTO.out.mono ?_; rintro e w2 ⟨A1, c1, rfl, hx2, hc2, hm2, hb2⟩)
                | (go_at_call 13; with_reducible refine (HRR.out _ hb2).mono ?_; rintro e w3 ⟨rfl, hb3⟩; have hb23 := hb2.trans (hb3.mono hb2.size); have hx3 := hx2.below hb3; have ht3 := HT.out.below (hb.trans (hb23.mono hb.size)); have hk3 := HK.out.below (hb.trans (hb23.mono hb.size)))
                | (go_at_call 14; with_reducible refine (encode_arg A1 n c1 k w3 KO.out).mono ?_; rintro e w4 ⟨rfl, rfl⟩; have hb4 := hb23; have hx4 := hx3; have ht4 := ht3; have hk4 := hk3)
                | (go_at_call 15; with_reducible refine (HBB.out A1 c1 _ hx4 hc2 hm2 (by decide) (by decide)).mono ?_; rintro e w5 ⟨rfl, hb5i⟩; have hb5 := hb4.trans (hb5i.mono hb4.size); have hx5 := hx4.below hb5i)
                | (go_at_call 16; with_reducible refine (codes_any _).mono ?_; rintro e w6 ⟨rfl, hb6i⟩; have hb6 := hb5.trans (hb6i.mono hb5.size); have hx6 := hx5.below hb6i)
                | (go_at_call 17; with_reducible refine (HCR.out A1 c1 _ hx6 hc2 hm2).mono ?_; rintro e w7 ⟨rfl, hb7i⟩; have hb7 := hb6.trans (hb7i.mono hb6.size)))
              go_ret
              exact ⟨rfl, hb.trans (hb7.mono hb.size)⟩
            · have hx_ := True.intro
              go_wp2_with (first
                | (go_at_call 12; with_reducible refine HTO.out.mono ?_; rintro e w2 ⟨A1, c1, rfl, hx2, hc2, hm2, hb2⟩)
                | (go_at_call 13; with_reducible refine (HRR.out _ hb2).mono ?_; rintro e w3 ⟨rfl, hb3⟩; have hb23 := hb2.trans (hb3.mono hb2.size); have hx3 := hx2.below hb3; have ht3 := HT.out.below (hb.trans (hb23.mono hb.size)); have hk3 := HK.out.below (hb.trans (hb23.mono hb.size)))
                | (go_at_call 14; with_reducible refine (encode_arg A1 n c1 k w3 KO.out).mono ?_; rintro e w4 ⟨rfl, rfl⟩; have hb4 := hb23; have hx4 := hx3; have ht4 := ht3; have hk4 := hk3)
                | (go_at_call 15; with_reducible refine (HBB.out A1 c1 _ hx4 hc2 hm2 (by decide) (by decide)).mono ?_; rintro e w5 ⟨rfl, hb5i⟩; have hb5 := hb4.trans (hb5i.mono hb4.size); have hx5 := hx4.below hb5i)
                | (go_at_call 16; with_reducible refine (codes_any _).mono ?_; rintro e w6 ⟨rfl, hb6i⟩; have hb6 := hb5.trans (hb6i.mono hb5.size); have hx6 := hx5.below hb6i)
                | (go_at_call 17; with_reducible refine (HCR.out A1 c1 _ hx6 hc2 hm2).mono ?_; rintro e w7 ⟨rfl, hb7i⟩; have hb7 := hb6.trans (hb7i.mono hb6.size)))
              go_ret
              exact ⟨rfl, hb.trans (hb7.mono hb.size)⟩
          · have d1 : decide (15 < k) = false := decide_eq_false k15
            have KI := Lib.hid (show 0 ≤ k ∧ k < 16 from ⟨by omega, by omega⟩)
            rcases hcz with ⟨rfl, rfl⟩ | ⟨rfl, rfl⟩ | ⟨rfl, rfl⟩ | ⟨rfl, rfl⟩
            · have hx_ := True.intro
              have KN := Lib.hid (show k = (k.toNat : Int) ∧ k.toNat < 16 from ⟨by omega, by omega⟩)
              obtain ⟨sz, hsz⟩ : ∃ sz, sz = cl ss k.toNat := ⟨_, rfl⟩
              have hsz0 : 0 < sz := by rw [hsz, cl_parts]; omega
              have hsz1 : decide (0 < sz) = true := decide_eq_true hsz0
              have hsz2 : decide ((0 : Int) < (sz : Int)) = true := by rw [decide_eq_true_iff]; omega
              have HSZ := Lib.hid hsz
              clear hsz
              go_wp2_with (first
                | (go_at_call 12; with_reducible refine HTO.out.mono ?_; rintro e w2 ⟨A1, c1, rfl, hx2, hc2, hm2, hb2⟩)
                | (go_at_call 13; with_reducible refine (HRR.out _ hb2).mono ?_; rintro e w3 ⟨rfl, hb3⟩; have hb23 := hb2.trans (hb3.mono hb2.size); have hx3 := hx2.below hb3; have ht3 := HT.out.below (hb.trans (hb23.mono hb.size)); have hk3 := HK.out.below (hb.trans (hb23.mono hb.size)))
                | (go_at_call 14; with_reducible refine (HEO.out A1 c1 w3 hx3 hc2 hm2 k.toNat KN.out.1 KN.out.2 (by trivial) ht3 hk3 sz HSZ.out).mono ?_; rintro e w4 ⟨A4, c4, rfl, hx4b, hc4b, hm4b, hb4i⟩; have hb4 := hb23.trans (hb4i.mono hb23.size); have hx4 := hx3.below hb4i; have ht4 := ht3.below hb4i; have hk4 := hk3.below hb4i)
                | (go_at_call 15; with_reducible refine (HBO.out A1 c1 _ hx4 hc2 hm2 (by trivial) ht4 hk4).mono ?_; rintro e w5 ⟨bst, rfl, HBE, hb5i⟩; have hb5 := hb4.trans (hb5i.mono hb4.size); have hx5 := hx4.below hb5i)
                | (go_at_call 16; with_reducible refine (codes_any _).mono ?_; rintro e w6 ⟨rfl, hb6i⟩; have hb6 := hb5.trans (hb6i.mono hb5.size); have hx6 := hx5.below hb6i)
                | (go_at_call 17; with_reducible refine (HCR.out A1 c1 _ hx6 hc2 hm2).mono ?_; rintro e w7 ⟨rfl, hb7i⟩; have hb7 := hb6.trans (hb7i.mono hb6.size)))
              go_ret
              exact ⟨rfl, hb.trans (hb7.mono hb.size)⟩
            · have hx_ := True.intro
              go_wp2_with (first
                | (go_at_call 12; with_reducible refine HTO.out.mono ?_; rintro e w2 ⟨A1, c1, rfl, hx2, hc2, hm2, hb2⟩)
                | (go_at_call 13; with_reducible refine (HRR.out _ hb2).mono ?_; rintro e w3 ⟨rfl, hb3⟩; have hb23 := hb2.trans (hb3.mono hb2.size); have hx3 := hx2.below hb3; have ht3 := HT.out.below (hb.trans (hb23.mono hb.size)); have hk3 := HK.out.below (hb.trans (hb23.mono hb.size)))
                | (go_at_call 14; with_reducible refine (HEB.out A1 c1 w3 hx3 hc2 hm2 KI.out.1 KI.out.2 (by decide) (by decide)).mono ?_; rintro e w4 ⟨rfl, hb4i⟩; have hb4 := hb23.trans (hb4i.mono hb23.size); have hx4 := hx3.below hb4i; have ht4 := ht3.below hb4i; have hk4 := hk3.below hb4i)
                | (go_at_call 15; with_reducible refine (HBB.out A1 c1 _ hx4 hc2 hm2 (by decide) (by decide)).mono ?_; rintro e w5 ⟨rfl, hb5i⟩; have hb5 := hb4.trans (hb5i.mono hb4.size); have hx5 := hx4.below hb5i)
                | (go_at_call 16; with_reducible refine (codes_any _).mono ?_; rintro e w6 ⟨rfl, hb6i⟩; have hb6 := hb5.trans (hb6i.mono hb5.size); have hx6 := hx5.below hb6i)
                | (go_at_call 17; with_reducible refine (HCR.out A1 c1 _ hx6 hc2 hm2).mono ?_; rintro e w7 ⟨rfl, hb7i⟩; have hb7 := hb6.trans (hb7i.mono hb6.size)))
              go_ret
              exact ⟨rfl, hb.trans (hb7.mono hb.size)⟩
            · have hx_ := True.intro
              go_wp2_with (first
                | (go_at_call 12; with_reducible refine HTO.out.mono ?_; rintro e w2 ⟨A1, c1, rfl, hx2, hc2, hm2, hb2⟩)
                | (go_at_call 13; with_reducible refine (HRR.out _ hb2).mono ?_; rintro e w3 ⟨rfl, hb3⟩; have hb23 := hb2.trans (hb3.mono hb2.size); have hx3 := hx2.below hb3; have ht3 := HT.out.below (hb.trans (hb23.mono hb.size)); have hk3 := HK.out.below (hb.trans (hb23.mono hb.size)))
                | (go_at_call 14; with_reducible refine (HEB.out A1 c1 w3 hx3 hc2 hm2 KI.out.1 KI.out.2 (by decide) (by decide)).mono ?_; rintro e w4 ⟨rfl, hb4i⟩; have hb4 := hb23.trans (hb4i.mono hb23.size); have hx4 := hx3.below hb4i; have ht4 := ht3.below hb4i; have hk4 := hk3.below hb4i)
                | (go_at_call 15; with_reducible refine (HBB.out A1 c1 _ hx4 hc2 hm2 (by decide) (by decide)).mono ?_; rintro e w5 ⟨rfl, hb5i⟩; have hb5 := hb4.trans (hb5i.mono hb4.size); have hx5 := hx4.below hb5i)
                | (go_at_call 16; with_reducible refine (codes_any _).mono ?_; rintro e w6 ⟨rfl, hb6i⟩; have hb6 := hb5.trans (hb6i.mono hb5.size); have hx6 := hx5.below hb6i)
                | (go_at_call 17; with_reducible refine (HCR.out A1 c1 _ hx6 hc2 hm2).mono ?_; rintro e w7 ⟨rfl, hb7i⟩; have hb7 := hb6.trans (hb7i.mono hb6.size)))
              go_ret
              exact ⟨rfl, hb.trans (hb7.mono hb.size)⟩
            · have hx_ := True.intro
              go_wp2_with (first
                | (go_at_call 12; with_reducible refine HTO.out.mono ?_; rintro e w2 ⟨A1, c1, rfl, hx2, hc2, hm2, hb2⟩)
                | (go_at_call 13; with_reducible refine (HRR.out _ hb2).mono ?_; rintro e w3 ⟨rfl, hb3⟩; have hb23 := hb2.trans (hb3.mono hb2.size); have hx3 := hx2.below hb3; have ht3 := HT.out.below (hb.trans (hb23.mono hb.size)); have hk3 := HK.out.below (hb.trans (hb23.mono hb.size)))
                | (go_at_call 14; with_reducible refine (HEB.out A1 c1 w3 hx3 hc2 hm2 KI.out.1 KI.out.2 (by decide) (by decide)).mono ?_; rintro e w4 ⟨rfl, hb4i⟩; have hb4 := hb23.trans (hb4i.mono hb23.size); have hx4 := hx3.below hb4i; have ht4 := ht3.below hb4i; have hk4 := hk3.below hb4i)
                | (go_at_call 15; with_reducible refine (HBB.out A1 c1 _ hx4 hc2 hm2 (by decide) (by decide)).mono ?_; rintro e w5 ⟨rfl, hb5i⟩; have hb5 := hb4.trans (hb5i.mono hb4.size); have hx5 := hx4.below hb5i)
                | (go_at_call 16; with_reducible refine (codes_any _).mono ?_; rintro e w6 ⟨rfl, hb6i⟩; have hb6 := hb5.trans (hb6i.mono hb5.size); have hx6 := hx5.below hb6i)
                | (go_at_call 17; with_reducible refine (HCR.out A1 c1 _ hx6 hc2 hm2).mono ?_; rintro e w7 ⟨rfl, hb7i⟩; have hb7 := hb6.trans (hb7i.mono hb6.size)))
              go_ret
              exact ⟨rfl, hb.trans (hb7.mono hb.size)⟩
end Go.Proofs.YtocddhokjhfaaaaDoor

namespace Go.Proofs.YtocddhokjhfaaaaDoor
open Go
set_option maxRecDepth 100000

abbrev laidBoth : List (String × DataW Unit) := [("math/bits.deBruijn64tab", Rows.laid_math_bits_deBruijn64tab), ("rick/times.kinds", Rows.laid_rick_times_kinds)]
theorem both_met (os : Os) (args : Array Value) : laidMetH Tryd.prog laidBoth ((World.doorLaid Tryd.prog 23 os).forCall (fun _ _ => 0) ⟨#[], args, []⟩).memory :=
  laidMetH_of_parts3 (fuel := 8) (laidMet_of_run' 8 (by kernel_rfl) (by kernel_rfl)) (by kernel_rfl) (by kernel_rfl)
theorem both_any {W : World} (h : laidMetH Tryd.prog laidBoth W) : True := True.intro
end Go.Proofs.YtocddhokjhfaaaaDoor

namespace Go.Proofs.YtocddhokjhfaaaaDoor
open Go Go.RowKit BitM Go.ChangeShapes Go.WideShapes Go.ChangeAt
set_option maxRecDepth 100000
set_option linter.unusedVariables false
theorem gKinds : Tryd.prog.globalNamed "rick/times.kinds" = some 0 := by kernel_rfl
theorem gKindsType : (Tryd.prog.globals[(0 : Nat)]?).map (·.type) = some 85 := by kernel_rfl
theorem cKind : Tryd.prog.cellsOf 84 = 2 := by kernel_rfl
theorem cKinds : Tryd.prog.cellsOf 85 = 8 := by kernel_rfl
theorem cInt : Tryd.prog.cellsOf 3 = 1 := by kernel_rfl
theorem gTab : Tryd.prog.globalNamed "math/bits.deBruijn64tab" = some 1 := by kernel_rfl
theorem gTabType : (Tryd.prog.globals[1]?).map (·.type) = some 106 := by kernel_rfl
theorem cTab8 : Tryd.prog.cellsOf 5 = 1 := by kernel_rfl
theorem cTab : Tryd.prog.cellsOf 106 = 64 := by kernel_rfl
theorem kind_cells {H : Type} {enc : TypeId × Value → H} {w : World} {base : Nat} {sp : Nat → Bool} {held : Bool} {fuel : Nat} {cs : List Value} {a b : Int} {p : List MemPlace}
    (h : DataW.trod enc Tryd.prog w base sp held fuel 84 cs = some (.agg [.lit (.int .i64 a), .lit (.int .i64 b)], p)) : cs = [.int .i64 a, .int .i64 b] := by
  obtain ⟨y0, y1, n, hx, hl, h0, h1⟩ := Go.ChangeShapes.trod_struct2 Tryd.underlying84 h
  rw [cKind] at hl
  match cs, hl with
  | [c0, c1], _ =>
    simp only [cInt] at h0 h1
    obtain ⟨m0, e0, e0', _⟩ := DataW.trod_int Tryd.underlying3 h0
    obtain ⟨m1, e1, e1', _⟩ := DataW.trod_int Tryd.underlying3 h1
    subst e0' e1'
    simp at hx e0 e1
    obtain ⟨⟨rfl, rfl⟩, _⟩ := hx
    subst e0 e1
    rfl

theorem laidBoth_eq : (laidBoth : List (String × DataW Unit)) = ("math/bits.deBruijn64tab", Lib.tabData .u8 (deB.map fun (n : Nat) => (n : Int))) :: [("rick/times.kinds", Rows.laid_rick_times_kinds)] := rfl
theorem tab_of_both {W : World} (h : laidMetH Tryd.prog laidBoth W) : TabAt W := by
  rw [MakeChecks.laidMetH_plain _ _ _ (by kernel_rfl), laidBoth_eq] at h
  have hT := Lib.tabIs_of_head gTab gTabType Tryd.underlying106 Tryd.underlying5 cTab8 cTab h
  intro i hi
  have hc := hT.cell gTab i (by simpa [deB] using hi)
  rw [hc]
  congr 2
  rw [List.getD_eq_getElem?_getD, List.getD_eq_getElem?_getD, List.getElem?_map]
  have : i < deB.length := by simpa [deB] using hi
  rw [List.getElem?_eq_getElem this]
  rfl
theorem kinds_of_both {W : World} (h : laidMetH Tryd.prog laidBoth W) : KindsAt W := by
  rw [MakeChecks.laidMetH_plain _ _ _ (by kernel_rfl)] at h
  obtain ⟨ps, ⟨_, _, _, _, _, _, _, _, _, _, ⟨g', t', cs, fuel, p, q, hg', ht', hvar, hd, _, _⟩, _⟩, _⟩ := h
  obtain rfl := Option.some.inj (gKinds.symm.trans hg')
  obtain rfl := Option.some.inj (gKindsType.symm.trans ht')
  obtain ⟨xs, m, _, hx, hlen, hn, hel⟩ := DataW.trod_array Tryd.underlying85 hd
  rw [cKinds] at hlen
  rw [cKind] at hel
  have hx1 := (Prod.mk.inj hx).1
  unfold Rows.laid_rick_times_kinds at hx1
  have hcells : cs.toList = [.int .i64 0, .int .i64 0, .int .i64 1, .int .i64 7, .int .i64 2, .int .i64 9, .int .i64 3, .int .i64 12] := by
    obtain ⟨l⟩ := cs
    simp only at hlen hel ⊢
    match xs, hn, l, hlen with
    | [x0, x1, x2, x3], _, [c0, c1, c2, c3, c4, c5, c6, c7], _ =>
      simp only [List.map_cons, List.map_nil, DataW.agg.injEq, List.cons.injEq, and_true] at hx1
      obtain ⟨a0, a1, a2, a3⟩ := hx1
      have h0 := hel 0 (by decide)
      have h1 := hel 1 (by decide)
      have h2 := hel 2 (by decide)
      have h3 := hel 3 (by decide)
      have k0 := kind_cells (h0.trans (show some x0 = some (DataW.agg [.lit (.int .i64 0), .lit (.int .i64 0)], x0.2) by rw [a0]))
      have k1 := kind_cells (h1.trans (show some x1 = some (DataW.agg [.lit (.int .i64 1), .lit (.int .i64 7)], x1.2) by rw [a1]))
      have k2 := kind_cells (h2.trans (show some x2 = some (DataW.agg [.lit (.int .i64 2), .lit (.int .i64 9)], x2.2) by rw [a2]))
      have k3 := kind_cells (h3.trans (show some x3 = some (DataW.agg [.lit (.int .i64 3), .lit (.int .i64 12)], x3.2) by rw [a3]))
      simp at k0 k1 k2 k3
      obtain ⟨rfl, rfl⟩ := k0
      obtain ⟨rfl, rfl⟩ := k1
      obtain ⟨rfl, rfl⟩ := k2
      obtain ⟨rfl, rfl⟩ := k3
      rfl
  have hcs : cs = #[.int .i64 0, .int .i64 0, .int .i64 1, .int .i64 7, .int .i64 2, .int .i64 9, .int .i64 3, .int .i64 12] := by
    apply Array.toList_inj.1
    rw [hcells]
  subst hcs
  unfold World.var? at hvar
  rw [gKinds] at hvar
  simp only [Option.bind_some] at hvar
  unfold KindsAt
  split at hvar
  · rename_i cs' t' fr' hh
    injection hvar with hvar
    subst hvar
    exact ⟨_, _, hh⟩
  · cases hvar
theorem both_tables {W : World} (h : laidMetH Tryd.prog laidBoth W) : TabAt W ∧ KindsAt W := ⟨tab_of_both h, kinds_of_both h⟩
set_option maxRecDepth 100000 in
theorem open_pair64 {H : Type} {enc : TypeId × Value → H} {W : World} {base b0 : Nat} {spare : Nat → Bool} {held : Bool} {r : Reach} {v : Value} {d : DataW H} {p : List MemPlace}
    (hv : Value.okWide Tryd.prog W r b0 47 v) (h : DataW.Trod enc Tryd.prog W base spare held 47 v d p) :
    ∃ a b : Int, v = .agg #[.int .u64 a, .int .u64 b] ∧ (Lit.int .u64 a).wf = true ∧ (Lit.int .u64 b).wf = true := by
  have hC : Tryd.prog.cellsOf 47 = 2 := by kernel_rfl
  have hc1 : Tryd.prog.cellsOf 22 = 1 := by kernel_rfl
  obtain ⟨cs, rfl, hsz⟩ : ∃ cs, v = .agg cs ∧ cs.size = 2 := by
    simp only [Value.okWide, Tryd.underlying47] at hv
    obtain ⟨cs, h1, h2, _⟩ := hv
    exact ⟨cs, h1, h2.trans hC⟩
  obtain ⟨fuel, hf⟩ := h
  obtain ⟨xs, m, _, _, _, hlx, hx⟩ := DataW.trod_array Tryd.underlying47 hf
  obtain ⟨l⟩ := cs
  match l, hsz with
  | [c0, c1], _ =>
    have h0 := hx 0 (by omega)
    have h1 := hx 1 (by omega)
    rw [hc1] at h0 h1
    obtain ⟨z0, e0, _, w0⟩ := DataW.trod_int Tryd.underlying22 (h0.trans (List.getElem?_eq_getElem (by omega)))
    obtain ⟨z1, e1, _, w1⟩ := DataW.trod_int Tryd.underlying22 (h1.trans (List.getElem?_eq_getElem (by omega)))
    simp [Value.cells] at e0 e1
    subst e0 e1
    exact ⟨z0, z1, rfl, w0, w1⟩

end Go.Proofs.YtocddhokjhfaaaaDoor
