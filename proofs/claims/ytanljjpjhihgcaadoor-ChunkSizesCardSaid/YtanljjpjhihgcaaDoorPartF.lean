/- Several texts in one: chunk.Encode and Decode at the example; ricklaw10.codes is true; chunk.Codec. Even times, once more (TimesEven's and TimesClasses' mathematics: never. Chunks of even samples: how many bytes they have. The walk of ChunkSizes. The condition on both tables: a world that meets it. What the condition on both tables gives; how an array of two numbers that came in is told to a walk. -/
import Derived.Test.YtanljjpjhihgcaaDoorPartE
import Derived.Test.YtanljjpjhihgcaaDoorPartD
import Derived.Test.YtanljjpjhihgcaaDoorPartA
import Derived.Test.YtanljjpjhihgcaaDoorRows
import Derived.LaidMore
import Derived.LaidHandle
import Derived.Stop.Joined
import Derived.Test.YtanljjpjhihgcaaDoorPartC
import Derived.Lib.LaidTab
import Derived.ChangeSame
namespace Go.Proofs.YtanljjpjhihgcaaDoor
open Go.RowKit BitM VarM RunM
set_option linter.unusedVariables false

set_option maxHeartbeats 800000 in
set_option maxRecDepth 100000 in
theorem encode_ex (A : Option Addr) (c : Nat) (w : World) (hx : Smp w A) (hc : 2 ≤ c) (hcm : c ≤ maxLen) :
    Calls Tryd.prog 23 #[.slice A 2 c, .int .i64 6] w fun e w' => ∃ A' c', e = .returned (.tuple #[.slice A' 7 c', .int .i64 0]) ∧ BytesAt w' A' [6, 0, 2, 20, 3, 2, 7] ∧ 7 ≤ c' ∧ c' ≤ maxLen ∧ Below w.heap.size w w' := by
  have HX := Lib.hid hx
  clear hx
  go_enter Tryd.func23, Tryd.ntmps23
  go_wp2_with (first
    | (go_at_call 26; with_reducible refine (chunkRight_ex A c _ HX.out hc hcm).mono ?_; rintro e w1 ⟨rfl, hb1⟩)
    | (go_at_call 45; with_reducible refine (apart_ex A c _ (HX.out.below hb1) hc hcm).mono ?_; rintro e w2 ⟨A1, c1, A2, c2, rfl, ht2, hc1, hm1, hn2, hc2, hm2, hb2⟩; have hbw2 := hb1.trans (hb2.mono hb1.size))
    | (go_at_call 12; with_reducible refine (timesPut1_ex A1 c1 _ ht2 hc1 hm1).mono ?_; rintro e w3 ⟨A3, c3, rfl, hx3, hc3, hm3, hb3⟩; have hbw3 := hbw2.trans (hb3.mono hbw2.size))
    | (go_at_call 46; with_reducible refine (putValues_ex A2 c2 _ (hn2.below hb3) hc2 hm2).mono ?_; rintro e w4 ⟨A4, c4, rfl, hx4, hc4, hm4, hb4⟩; have hbw4 := hbw3.trans (hb4.mono hbw3.size); have hx34 := hx3.below hb4; have ho5 := OwnS.new w4 5 [6, 0, 2] w4.heap.size (Nat.le_refl _) (by unfold maxLen; simp); have hb5 : Below w4.heap.size w4 (w4.alloc (.cells #[.int .u8 6, .int .u8 0, .int .u8 2] 5)) := (Below.refl _ _).alloc (Nat.le_refl _) _)
    | (at_builtin; refine wpList_append_z rfl (.tmp 59) (.tmp 60) 24 rfl Tryd.underlying24 infoU8 rfl ho5 _ _ 2 [20, 3] [6, 0, 2, 20, 3] rfl rfl (hx34.below hb5) rfl (by simp) (by simp) ?_; intro A6 c6 w6 ho6 hg6; have hb6 := ho5.belowGrown (Nat.le_refl _) (by simp) hb5 hg6; have hx46 := hx4.below hb6)
    | (at_builtin; refine wpList_append_z rfl (.tmp 62) (.tmp 63) 24 rfl Tryd.underlying24 infoU8 rfl ho6 _ _ 2 [2, 7] [6, 0, 2, 20, 3, 2, 7] rfl rfl hx46 rfl (by simp) (by exact hb6.size) ?_; intro A7 c7 w7 ho7 hg7; have hb7 := ho6.belowGrown (Nat.le_refl _) hb6.size hb6 hg7))
  have hcp := ho7.caps
  go_ret2
  exact ⟨A7, c7, rfl, ho7.bytes, hcp.2.1, hcp.2.2.1, hbw4.trans (hb7.mono hbw4.size)⟩

set_option maxHeartbeats 800000 in
set_option maxRecDepth 100000 in
theorem decode_ex (A : Option Addr) (c : Nat) (w : World) (hx : BytesAt w A [6, 0, 2, 20, 3, 2, 7]) (hc : 7 ≤ c) (hcm : c ≤ maxLen) :
    Calls Tryd.prog 47 #[.slice A 7 c] w fun e w' => ∃ A' c', e = .returned (.tuple #[.slice A' 2 c', .int .i64 6, .int .i64 0]) ∧ Smp w' A' ∧ Below w.heap.size w w' := by
  obtain ⟨b, off, rfl, hcell⟩ := hx (by simp)
  have h0 : w.cell? ⟨b, off, none⟩ = some (.int .u8 6) := hcell 0 (by decide)
  have h1 : w.cell? ⟨b, off + 1, none⟩ = some (.int .u8 0) := hcell 1 (by decide)
  have h2 : w.cell? ⟨b, off + 2, none⟩ = some (.int .u8 2) := hcell 2 (by decide)
  have hx3 : BytesAt w (some ⟨b, off + 3, none⟩) [20, 3, 2, 7] := hx.cut 3 (some ⟨b, off + 3, none⟩) (fun _ => by rw [Option.map_some, Addr.add_lit])
  have hx5 : BytesAt w (some ⟨b, off + 3 + 2, none⟩) [2, 7] := hx3.cut 2 (some ⟨b, off + 3 + 2, none⟩) (fun _ => by rw [Option.map_some, Addr.add_lit])
  have hbl := World.block_lt_of_cell? _ _ h0
  have k0 : ∀ y : SubW w.heap.size w, y.at_.cell? ⟨b, off, none⟩ = some (.int .u8 6) := fun y => (World.cell?_of_block (a := ⟨b, off, none⟩) (y.ok_.block _ hbl)).trans h0
  have k1 : ∀ y : SubW w.heap.size w, y.at_.cell? ⟨b, off + 1, none⟩ = some (.int .u8 0) := fun y => (World.cell?_of_block (a := ⟨b, off + 1, none⟩) (y.ok_.block _ hbl)).trans h1
  have k2 : ∀ y : SubW w.heap.size w, y.at_.cell? ⟨b, off + 2, none⟩ = some (.int .u8 2) := fun y => (World.cell?_of_block (a := ⟨b, off + 2, none⟩) (y.ok_.block _ hbl)).trans h2
  have hor : bits BinOp.or IntKind.i64 0 2 = 2 := by decide
  have hc3 : ¬ c = 3 := by omega
  have hc5 : ¬ c - 3 = 2 := by omega
  have HX3 := Lib.hid hx3
  have HX5 := Lib.hid hx5
  unfold maxLen at hcm
  clear hcell hx hx3 hx5
  go_enter Tryd.func47, Tryd.ntmps47
  go_wp2_with fail
  refine region_over [] [0, 1, 2, 3, 4, 5, 6, 7, 8, 9, 10, 11, 12, 13, 14, 15] (by kernel_rfl) (by kernel_rfl) ?_
  rintro wd hbd
  rw [wpBl_nil]
  simp only [List.map_cons, List.map_nil, opAt, List.getElem?_toArray, List.getElem?_cons_zero, List.getElem?_cons_succ, Option.getD_some]
  repeat (go_big_quiet_step (fail))
  refine wpQuiet_nil ?_
  go_wp2_with (first
    | (go_at_call 13; with_reducible refine (timesGet1_ex4 (some ⟨b, off + 3, none⟩) (c - 3) _ (HX3.out.below hbd) (by omega) (by unfold maxLen; omega)).mono ?_; rintro e w2 ⟨A2, c2, rfl, ht2, hb2⟩; have hbw2 := hbd.trans (hb2.mono hbd.size))
    | (go_at_call 64; with_reducible refine (getValues_ex (some ⟨b, off + 3 + 2, none⟩) _ _ (HX5.out.below hbw2) (by omega) (by unfold maxLen; omega)).mono ?_; rintro e w3 ⟨A3, c3, rfl, hn3, hb3⟩; have hbw3 := hbw2.trans (hb3.mono hbw2.size))
    | (go_at_call 65; with_reducible refine (together_ex A2 c2 A3 c3 _ (ht2.below hb3) hn3).mono ?_; rintro e w4 ⟨A4, c4, rfl, hs4, hc4, hm4, hb4⟩; have hbw4 := hbw3.trans (hb4.mono hbw3.size))
    | (go_at_call 26; with_reducible refine (chunkRight_ex A4 c4 _ hs4 hc4 hm4).mono ?_; rintro e w5 ⟨rfl, hb5⟩; have hbw5 := hbw4.trans (hb5.mono hbw4.size)))
  go_ret3
  exact ⟨A4, c4, rfl, hs4.below hb5, hbw5⟩

theorem chIsWay_yes (z : Int) (h0 : 0 ≤ z) (h4 : z < 4) (w : World) : Calls Tryd.prog 48 #[.int .i64 z] w fun e w' => e = .returned (.bool true) ∧ w = w' := by
  have d0 : decide (0 ≤ z) = true := by rw [decide_eq_true_iff]; exact h0
  have d3 : decide (z < 4) = true := by rw [decide_eq_true_iff]; exact h4
  go_enter Tryd.func48, Tryd.ntmps48
  go_wp2_with fail
  go_ret
  exact ⟨rfl, rfl⟩
theorem chIsWay_no (z : Int) (h : z < 0 ∨ 4 ≤ z) (w : World) : Calls Tryd.prog 48 #[.int .i64 z] w fun e w' => e = .returned (.bool false) ∧ w = w' := by
  rcases h with h | h
  · have d0 : decide (0 ≤ z) = false := by rw [decide_eq_false_iff_not]; omega
    go_enter Tryd.func48, Tryd.ntmps48
    go_wp2_with fail
    go_ret
    exact ⟨rfl, rfl⟩
  · have d0 : decide (0 ≤ z) = true := by rw [decide_eq_true_iff]; omega
    have d3 : decide (z < 4) = false := by rw [decide_eq_false_iff_not]; omega
    go_enter Tryd.func48, Tryd.ntmps48
    go_wp2_with fail
    go_ret
    exact ⟨rfl, rfl⟩
theorem codec_yes (a b : Int) (a0 : 0 ≤ a) (a4 : a < 4) (b0 : 0 ≤ b) (b4 : b < 4) (w : World) : Calls Tryd.prog 27 #[.int .i64 a, .int .i64 b] w fun e w' => e = .returned (.int .i64 (4 * a + b)) ∧ w = w' := by
  go_enter Tryd.func27, Tryd.ntmps27
  go_wp2_with (first
    | (go_at_call 48; with_reducible refine (chIsWay_yes a a0 a4 _).mono ?_; rintro e w1 ⟨rfl, rfl⟩)
    | (go_at_call 48; with_reducible refine (chIsWay_yes b b0 b4 _).mono ?_; rintro e w1 ⟨rfl, rfl⟩))
  go_ret
  exact ⟨rfl, rfl⟩
theorem codec_no (a b : Int) (h : a < 0 ∨ 4 ≤ a ∨ b < 0 ∨ 4 ≤ b) (w : World) : Calls Tryd.prog 27 #[.int .i64 a, .int .i64 b] w fun e w' => e = .returned (.int .i64 (-1)) ∧ w = w' := by
  by_cases ha : a < 0 ∨ 4 ≤ a
  · have HA := Lib.hid ha
    clear ha h
    go_enter Tryd.func27, Tryd.ntmps27
    go_wp2_with (go_at_call 48; with_reducible refine (chIsWay_no a HA.out _).mono ?_; rintro e w1 ⟨rfl, rfl⟩)
    go_ret
    exact ⟨rfl, rfl⟩
  · have a0 : 0 ≤ a := by omega
    have a4 : a < 4 := by omega
    have hb : b < 0 ∨ 4 ≤ b := by omega
    have HB := Lib.hid hb
    clear ha h hb
    go_enter Tryd.func27, Tryd.ntmps27
    go_wp2_with (first
      | (go_at_call 48; with_reducible refine (chIsWay_no b HB.out _).mono ?_; rintro e w1 ⟨rfl, rfl⟩)
      | (go_at_call 48; with_reducible refine (chIsWay_yes a a0 a4 _).mono ?_; rintro e w1 ⟨rfl, rfl⟩))
    go_ret
    exact ⟨rfl, rfl⟩

set_option maxRecDepth 100000 in
theorem codes_any (w : World) : Calls Tryd.prog 25 #[] w fun e w' => e = .returned (.bool true) ∧ Below w.heap.size w w' := by
  have hb0 : Below w.heap.size w (w.alloc (.cells #[.int .i64 10, .int .u64 7, .int .i64 13, .int .u64 7] 58)) := (Below.refl _ _).alloc (Nat.le_refl _) _
  have hx0 : Smp (w.alloc (.cells #[.int .i64 10, .int .u64 7, .int .i64 13, .int .u64 7] 58)) (some ⟨w.heap.size, 0, none⟩) := ⟨w.heap.size, 0, rfl, by rw [World.cell?_alloc_new]; rfl, by rw [World.cell?_alloc_new]; rfl, by rw [World.cell?_alloc_new]; rfl, by rw [World.cell?_alloc_new]; rfl⟩
  go_enter Tryd.func25, Tryd.ntmps25
  go_wp2_with (go_at_call 23; with_reducible refine (encode_ex (some ⟨w.heap.size, 0, none⟩) 2 _ hx0 (by omega) (by unfold maxLen; omega)).mono ?_; rintro e w1 ⟨A1, c1, rfl, hx1, hc1, hm1, hb1⟩)
  have hb01 := hb0.trans (hb1.mono hb0.size)
  go_loud (with_reducible refine (decode_ex A1 c1 _ hx1 hc1 hm1).mono ?_)
  rintro e w2 ⟨A2, c2, rfl, hs2, hb2⟩
  obtain ⟨b2, o2, rfl, q0, q1, q2, q3⟩ := hs2
  have t1 := text_n A1 7 c1 [6, 0, 2, 20, 3, 2, 7] rfl (hx1.below hb2)
  go_wp2_with (go_at_call 27; refine (codec_yes 1 2 (by omega) (by omega) (by omega) (by omega) _).mono ?_; rintro e w3 ⟨rfl, rfl⟩)
  go_ret
  exact ⟨rfl, hb01.trans (hb2.mono hb01.size)⟩
end Go.Proofs.YtanljjpjhihgcaaDoor

namespace BitM
open Go.Proofs.YtanljjpjhihgcaaDoor
theorem i64_cong (z : Int) : ∃ k : Int, i64 z = z + 18446744073709551616 * k := by
  refine ⟨-((z + 9223372036854775808) / 18446744073709551616), ?_⟩
  unfold i64 Go.RowKit.wrap64
  omega
theorem i64_of (z d k : Int) (h : z = d + 18446744073709551616 * k) (h1 : -9223372036854775808 ≤ d) (h2 : d ≤ 9223372036854775807) : i64 z = d := by
  subst h
  unfold i64 Go.RowKit.wrap64
  omega
/-- Times with one step between them. -/
def evens (f s : Int) : Nat → List Int
  | 0 => []
  | k + 1 => evens f s k ++ [i64 (f + k * s)]
theorem evens_len (f s : Int) : ∀ k, (evens f s k).length = k
  | 0 => rfl
  | k + 1 => by simp [evens, evens_len f s k]
theorem evens_get (f s : Int) : ∀ n k, k < n → (evens f s n).getD k 0 = i64 (f + k * s)
  | 0, k, h => by omega
  | n + 1, k, h => by
    show (evens f s n ++ [i64 (f + n * s)]).getD k 0 = _
    rw [List.getD_eq_getElem?_getD]
    rcases Nat.lt_or_ge k n with h1 | h1
    · rw [List.getElem?_append_left (by rw [evens_len]; exact h1), ← List.getD_eq_getElem?_getD]
      exact evens_get f s n k h1
    · obtain rfl : k = n := by omega
      rw [List.getElem?_append_right (by rw [evens_len]; omega), evens_len, Nat.sub_self]
      rfl
theorem evens_range (f s : Int) : ∀ n, ∀ v ∈ evens f s n, -9223372036854775808 ≤ v ∧ v ≤ 9223372036854775807
  | 0, v, h => by simp [evens] at h
  | n + 1, v, h => by
    simp only [evens, List.mem_append, List.mem_singleton] at h
    rcases h with h | rfl
    · exact evens_range f s n v h
    · exact i64_range _
theorem i64_step (f s : Int) (k : Nat) : i64 (i64 (f + (k + 1 : Nat) * s) - i64 (f + k * s)) = i64 s := by
  obtain ⟨a, ha⟩ := i64_cong (f + (k + 1 : Nat) * s)
  obtain ⟨b, hb⟩ := i64_cong (f + k * s)
  obtain ⟨c, hc⟩ := i64_cong s
  have hr := i64_range s
  refine i64_of _ (i64 s) (a - b - c) ?_ hr.1 hr.2
  rw [ha, hb, hc]
  have e : ((k + 1 : Nat) : Int) * s = k * s + s := by push_cast; rw [Int.add_mul, Int.one_mul]
  rw [e]
  omega
theorem turn_even (f s : Int) (n k : Nat) (h1 : 1 ≤ k) (h : k + 1 < n) : turn (evens f s n) k = 0 := by
  unfold turn
  rw [evens_get f s n (k + 1) h, evens_get f s n k (by omega), evens_get f s n (k - 1) (by omega)]
  obtain ⟨j, rfl⟩ : ∃ j, k = j + 1 := ⟨k - 1, by omega⟩
  rw [Nat.add_sub_cancel, i64_step f s (j + 1), i64_step f s j, Int.sub_self]
  exact i64_of 0 0 0 (by omega) (by omega) (by omega)
theorem tt_even (f s : Int) (n : Nat) : ∀ k, k + 1 < n → (tt (evens f s n) (k + 1)).1 = 128 + k
  | 0, _ => by
    show 0 + wi 64 + wi 64 = 128 + 0
    rw [show wi 64 = 64 by decide]
  | k + 1, h => by
    show ((tch (turn (evens f s n) (k + 1))).foldl stp (tt (evens f s n) (k + 1))).1 = _
    rw [tch_len, turn_even f s n (k + 1) (by omega) h, tt_even f s n k (by omega)]
    show 128 + k + 1 + 0 = _
    omega
theorem tby_even0 (f s : Int) : (tby (evens f s 0)).length = 0 := rfl
theorem tby_even1 (f s : Int) : (tby (evens f s 1)).length = 8 := by
  rw [tby_len (by simp [evens])]
  show (0 + wi 64 + 7) / 8 = 8
  rw [show wi 64 = 64 by decide]
theorem tby_even (f s : Int) (n : Nat) (h : 2 ≤ n) : (tby (evens f s n)).length = 16 + (n - 2 + 7) / 8 := by
  rw [tby_len (by intro h0; have := congrArg List.length h0; rw [evens_len] at this; simp at this; omega), evens_len]
  obtain ⟨k, rfl⟩ : ∃ k, n = k + 2 := ⟨n - 2, by omega⟩
  rw [show k + 2 - 1 = k + 1 by omega, tt_even f s (k + 2) k (by omega)]
  omega
theorem i64_next (f s : Int) (k : Nat) : i64 (i64 (f + k * s) + s) = i64 (f + (k + 1 : Nat) * s) := by
  obtain ⟨b, hb⟩ := i64_cong (f + k * s)
  obtain ⟨a, ha⟩ := i64_cong (f + (k + 1 : Nat) * s)
  have hr := i64_range (f + (k + 1 : Nat) * s)
  refine i64_of _ _ (b - a) ?_ hr.1 hr.2
  rw [ha, hb]
  have e : ((k + 1 : Nat) : Int) * s = k * s + s := by push_cast; rw [Int.add_mul, Int.one_mul]
  rw [e]
  omega
theorem i64_id (f : Int) (h1 : -9223372036854775808 ≤ f) (h2 : f ≤ 9223372036854775807) : i64 f = f := i64_of f f 0 (by omega) h1 h2
end BitM

namespace BitM
open Go.Proofs.YtanljjpjhihgcaaDoor
/-- Samples with one step between them, and one value. -/
def evs (f s : Int) (v n : Nat) : List (Int × Nat) := (evens f s n).map fun a => (a, v)
theorem evs_len (f s : Int) (v n : Nat) : (evs f s v n).length = n := by unfold evs; rw [List.length_map, evens_len]
theorem evs_fst (f s : Int) (v n : Nat) : (evs f s v n).map Prod.fst = evens f s n := by
  unfold evs
  rw [List.map_map]
  exact List.map_id _
theorem evs_snd (f s : Int) (v n : Nat) : (evs f s v n).map Prod.snd = List.replicate n v := by
  unfold evs
  rw [List.map_map, List.eq_replicate_iff]
  refine ⟨by rw [List.length_map, evens_len], fun b hb => ?_⟩
  obtain ⟨a, _, rfl⟩ := List.mem_map.1 hb
  rfl
theorem evs_succ (f s : Int) (v k : Nat) : evs f s v (k + 1) = evs f s v k ++ [(i64 (f + k * s), v)] := by
  unfold evs
  show (evens f s k ++ [i64 (f + k * s)]).map _ = _
  rw [List.map_append]
  rfl
theorem evs_range (f s : Int) (v n : Nat) (hv : v < 18446744073709551616) : ∀ p ∈ evs f s v n, (-9223372036854775808 ≤ p.1 ∧ p.1 ≤ 9223372036854775807) ∧ p.2 < 18446744073709551616 := by
  intro p hp
  unfold evs at hp
  obtain ⟨a, ha, rfl⟩ := List.mem_map.1 hp
  exact ⟨evens_range f s n a ha, hv⟩
theorem evs_get (f s : Int) (v n k : Nat) (hk : k < n) : ((evs f s v n).getD k (0, 0)).1 = i64 (f + k * s) := by
  have hl : k < (evens f s n).length := by rw [evens_len]; exact hk
  have h := evens_get f s n k hk
  rw [List.getD_eq_getElem?_getD, List.getElem?_eq_getElem hl, Option.getD_some] at h
  unfold evs
  rw [List.getD_eq_getElem?_getD, List.getElem?_map, List.getElem?_eq_getElem hl]
  exact h
theorem evs_small (f s : Int) (k : Nat) (hf1 : -1099511627776 ≤ f) (hf2 : f ≤ 1099511627776) (hs1 : 1 ≤ s) (hs2 : s ≤ 65536) (hk : k ≤ 200) : i64 (f + k * s) = f + k * s := by
  have h1 : 0 ≤ (k : Int) * s := Int.mul_nonneg (by omega) (by omega)
  have h2 : (k : Int) * s ≤ 200 * 65536 := Int.mul_le_mul (by omega) hs2 (by omega) (by omega)
  exact i64_id _ (by omega) (by omega)
theorem evs_right (f s : Int) (v n : Nat) (hf1 : -1099511627776 ≤ f) (hf2 : f ≤ 1099511627776) (hs1 : 1 ≤ s) (hs2 : s ≤ 65536) (h0 : 0 < n) (hn : n ≤ 200) : rightE (evs f s v n) = 0 := by
  have hl := evs_len f s v n
  unfold rightE
  rw [if_neg (by intro h; rw [h] at hl; simp at hl; omega), if_neg (by omega), if_pos]
  intro k hk
  rw [hl] at hk
  rw [evs_get f s v n k (by omega), evs_get f s v n (k + 1) hk, evs_small f s k hf1 hf2 hs1 hs2 (by omega), evs_small f s (k + 1) hf1 hf2 hs1 hs2 (by omega)]
  have e : ((k + 1 : Nat) : Int) * s = k * s + s := by push_cast; rw [Int.add_mul, Int.one_mul]
  omega
theorem cl_parts (ss : List (Int × Nat)) (k : Nat) : cl ss k = 3 + (twb (ss.map Prod.fst) (k / 4)).length + (vb (ss.map Prod.snd) (k % 4)).length := by
  unfold cl cb
  rw [List.length_append, List.length_append]
  rfl
theorem cl_raw (ss : List (Int × Nat)) : cl ss 0 = 3 + 16 * ss.length := by
  rw [cl_parts]
  show 3 + (zraw (ss.map Prod.fst)).length + (wordsB (ss.map Prod.snd)).length = _
  rw [zraw_len, length_words, List.length_map, List.length_map]
  omega
theorem cl_few (f s : Int) (v n : Nat) (hv : v < 18446744073709551616) (h0 : 0 < n) (hn : n ≤ 200) : cl (evs f s v n) 10 ≤ 56 := by
  rw [cl_parts, evs_fst, evs_snd]
  show 3 + (tby (evens f s n)).length + (RunM.rput (List.replicate n v)).length ≤ 56
  rw [RunM.rput_replicate n v h0, List.length_append]
  have h1 : (VarM.vput n).length ≤ 2 := VarM.vput_len_le 1 n (by omega)
  have h2 : (VarM.vput v).length ≤ 10 := VarM.vput_len10 hv
  have h3 : (tby (evens f s n)).length ≤ 41 := by
    by_cases hn1 : n = 1
    · subst hn1
      rw [tby_even1]
      omega
    · rw [tby_even f s n (by omega)]
      omega
  omega
/-- Samples as cells. -/
def ucs (ss : List (Int × Nat)) : List Go.Value := ss.flatMap fun p => [.int .i64 p.1, .int .u64 (p.2 : Int)]
theorem ucs_len (ss : List (Int × Nat)) : (ucs ss).length = ss.length * 2 := by
  induction ss with
  | nil => rfl
  | cons p ss ih => simp only [ucs, List.flatMap_cons, List.length_append, List.length_cons, List.length_nil] at *; omega
theorem ucs_get : ∀ (ss : List (Int × Nat)) (k : Nat), k < ss.length → (ucs ss)[k * 2]? = some (.int .i64 (ss.getD k (0, 0)).1) ∧ (ucs ss)[k * 2 + 1]? = some (.int .u64 ((ss.getD k (0, 0)).2 : Int))
  | [], k, h => by simp at h
  | p :: ss, 0, _ => ⟨rfl, rfl⟩
  | p :: ss, k + 1, h => by
    have ih := ucs_get ss k (by simpa using h)
    have e : ucs (p :: ss) = [.int .i64 p.1, .int .u64 (p.2 : Int)] ++ ucs ss := by simp only [ucs, List.flatMap_cons]
    rw [e]
    constructor
    · rw [List.getElem?_append_right (by simp only [List.length_cons, List.length_nil]; omega), show (k + 1) * 2 - [Go.Value.int .i64 p.1, .int .u64 (p.2 : Int)].length = k * 2 by simp only [List.length_cons, List.length_nil]; omega, ih.1]
      rfl
    · rw [List.getElem?_append_right (by simp only [List.length_cons, List.length_nil]; omega), show (k + 1) * 2 + 1 - [Go.Value.int .i64 p.1, .int .u64 (p.2 : Int)].length = k * 2 + 1 by simp only [List.length_cons, List.length_nil]; omega, ih.2]
      rfl
theorem ucs_snoc (ss : List (Int × Nat)) (a : Int) (v : Nat) : ucs ss ++ [.int .i64 a, .int .u64 (v : Int)] = ucs (ss ++ [(a, v)]) := by simp [ucs]
end BitM
namespace Go.Proofs.YtanljjpjhihgcaaDoor
open Go.RowKit BitM VarM RunM
set_option linter.unusedVariables false

theorem OwnP.smps {w : World} {base n c : Nat} {A : Option Addr} {ss : List (Int × Nat)} (h : OwnP w base (.slice A n c) n (ucs ss)) (hn : ss.length = n) : SmpsAt w A ss ∧ n ≤ c ∧ c ≤ maxLen := by
  rcases h.2 with ⟨h0, h1⟩ | ⟨g, cap, cur, hv, hb, hh, hn', hm, hs, ht⟩
  · injection h0 with h2 h3 h4
    subst h4
    exact ⟨fun hne => absurd (List.eq_nil_of_length_eq_zero (by omega)) hne, by omega, by unfold maxLen; omega⟩
  · injection hv with h1 h2 h3
    subst h1 h3
    have hc := World.ownsRow.cells (g := g) h rfl
    refine ⟨fun _ => ⟨g, 0, rfl, fun k hk => ?_⟩, hn', hm⟩
    obtain ⟨g1, g2⟩ := ucs_get ss k hk
    have r1 := hc _ _ g1
    have r2 := hc _ _ g2
    rw [Addr.add_mid] at r1 r2
    exact ⟨r1, r2⟩
theorem codec_to (a b z : Int) (a0 : 0 ≤ a) (a4 : a < 4) (b0 : 0 ≤ b) (b4 : b < 4) (hz : 4 * a + b = z) (w : World) : Calls Tryd.prog 27 #[.int .i64 a, .int .i64 b] w fun e w' => e = .returned (.int .i64 z) ∧ w = w' := by
  subst hz
  exact codec_yes a b a0 a4 b0 b4 w
end Go.Proofs.YtanljjpjhihgcaaDoor

namespace Go.Proofs.YtanljjpjhihgcaaDoor
open Go.RowKit BitM VarM RunM
set_option linter.unusedVariables false

theorem modn200 (a : Int) : ∃ k : Nat, k ≤ 199 ∧ wrap64 ((IntKind.u64.wrap a).tmod 200) = (k : Int) := by
  have h0 : 0 ≤ IntKind.u64.wrap a := by rw [IntKind.wrap_u64]; omega
  rw [Int.tmod_eq_emod_of_nonneg h0]
  have h2 : 0 ≤ IntKind.u64.wrap a % 200 := Int.emod_nonneg _ (by omega)
  have h3 : IntKind.u64.wrap a % 200 < 200 := Int.emod_lt_of_pos _ (by omega)
  rw [IntWalk.wrap64_in (IntKind.u64.wrap a % 200) ⟨by omega, by omega⟩]
  exact ⟨(IntKind.u64.wrap a % 200).toNat, by omega, by omega⟩

set_option maxHeartbeats 1000000 in
set_option maxRecDepth 100000 in
theorem chunkSizes_walk (a : Int) (ha : (Lit.int .i64 a).wf = true) (f : Int) (hf : (Lit.int .i64 f).wf = true) (m0 : Int) (hm0 : (Lit.int .u64 m0).wf = true) (m1 : Int) (hm1 : (Lit.int .u64 m1).wf = true) {w : World} (htk : TabAt w ∧ KindsAt w) :
    Calls Tryd.prog 11 #[.int .i64 a, .int .i64 f, .agg #[.int .u64 m0, .int .u64 m1]] w fun e w' => e = .returned (.bool true) ∧ Below w.heap.size w w' := by
  obtain ⟨ht, hk⟩ := htk
  obtain ⟨v, rfl⟩ : ∃ v : Nat, m1 = (v : Int) := ⟨m1.toNat, by have := bounds_u64 hm1; omega⟩
  have hv64 : v < 18446744073709551616 := by have := bounds_u64 hm1; omega
  obtain ⟨n0, hn0, hnn⟩ := modn200 a
  have HT := Lib.hid ht
  have HK := Lib.hid hk
  have HNN := Lib.hid hnn
  clear hf ha ht hk hnn hm0 hm1
  go_enter Tryd.func11, Tryd.ntmps11
  go_wp2_with fail
  have e0 : (w.alloc (.cells #[.int .u64 m0, .int .u64 (v : Int)] 56)).cell? ⟨w.heap.size, 0, none⟩ = some (.int .u64 m0) := by rw [World.cell?_alloc_new]; rfl
  have e1 : (w.alloc (.cells #[.int .u64 m0, .int .u64 (v : Int)] 56)).cell? ⟨w.heap.size, 1, none⟩ = some (.int .u64 (v : Int)) := by rw [World.cell?_alloc_new]; rfl
  have ke : ∀ y : SubW (w.alloc (.cells #[.int .u64 m0, .int .u64 (v : Int)] 56)).heap.size (w.alloc (.cells #[.int .u64 m0, .int .u64 (v : Int)] 56)), y.at_.cell? ⟨w.heap.size, 0, none⟩ = some (.int .u64 m0) := fun y => (World.cell?_of_block (a := ⟨w.heap.size, 0, none⟩) (y.ok_.block _ (World.block_lt_of_cell? _ _ e0))).trans e0
  have kf : ∀ y : SubW (w.alloc (.cells #[.int .u64 m0, .int .u64 (v : Int)] 56)).heap.size (w.alloc (.cells #[.int .u64 m0, .int .u64 (v : Int)] 56)), y.at_.cell? ⟨w.heap.size, 1, none⟩ = some (.int .u64 (v : Int)) := fun y => (World.cell?_of_block (a := ⟨w.heap.size, 1, none⟩) (y.ok_.block _ (World.block_lt_of_cell? _ _ e1))).trans e1
  refine region_over [] [0, 1, 2, 3, 4, 5, 6] (by kernel_rfl) (by kernel_rfl) ?_
  rintro wd hbd
  rw [wpBl_nil]
  simp only [List.map_cons, List.map_nil, opAt, List.getElem?_toArray, List.getElem?_cons_zero, List.getElem?_cons_succ, Option.getD_some]
  repeat (go_big_quiet_step (fail))
  refine wpQuiet_nil ?_
  go_wp2_with fail
  obtain ⟨n, hn⟩ : ∃ n : Nat, wrap64 (1 + wrap64 ((IntKind.u64.wrap a).tmod 200)) = (n : Int) ∧ 0 < n ∧ n ≤ 200 := by
    rw [HNN.out]
    refine ⟨n0 + 1, ?_, by omega, by omega⟩
    rw [IntWalk.wrap64_in (1 + (n0 : Int)) ⟨by omega, by omega⟩]
    omega
  obtain ⟨hn, hpos, hl⟩ := hn
  obtain ⟨f1, hf1⟩ : ∃ f1, f.tmod 1099511627776 = f1 := ⟨_, rfl⟩
  have hfb : -1099511627776 ≤ f1 ∧ f1 ≤ 1099511627776 := by
    have h1 := Int.tmod_lt_of_pos f (show (0 : Int) < 1099511627776 by omega)
    have h2 := Int.lt_tmod_of_pos f (show (0 : Int) < 1099511627776 by omega)
    rw [hf1] at h1 h2
    omega
  obtain ⟨st, hst⟩ : ∃ st : Nat, IntKind.u16.wrap m0 = (st : Int) ∧ st ≤ 65535 := by
    refine ⟨(IntKind.u16.wrap m0).toNat, ?_, ?_⟩
    · simp only [IntKind.wrap_u16]; omega
    · simp only [IntKind.wrap_u16]; omega
  obtain ⟨hst, hst2⟩ := hst
  rw [hn, hf1, hst]
  have hb1 : Below w.heap.size w wd := ((Below.refl _ _).alloc (Nat.le_refl _) _).trans (hbd.mono (by simp))
  obtain ⟨s, hs⟩ : ∃ s : Int, s = (st : Int) + 1 := ⟨_, rfl⟩
  have hs1 : 1 ≤ s := by omega
  have hs2 : s ≤ 65536 := by omega
  have hz : f1 = f1 + ((0 : Nat) : Int) * s := by simp
  have HZ0 := Lib.hid hz
  have HS := Lib.hid hs
  have HFB := Lib.hid hfb
  have HS12 := Lib.hid (And.intro hs1 hs2)
  obtain ⟨iu, hiu, hzz0, hzz1, hzz2⟩ := info_parts infoSample
  clear hn hf1 hst hs hfb hs1 hs2 hz ke kf e0 e1 hbd
  go_loopw [10, 11, 12] (fun l at_ i wr => ∃ (k c' : Nat) (A' : Option Addr) (z : Int), k ≤ n ∧ i = .int .i64 k ∧ at_ = .int .i64 z ∧ Hid (z = f1 + (k : Int) * s) ∧ l = .slice A' k c' ∧ OwnP wr w.heap.size (.slice A' k c') k (ucs (evs f1 s v k)) ∧ Below w.heap.size w wr) (fun _ _ i _ => n - (intOf i).toNat)
  case atStart => exact ⟨0, 0, none, f1, by omega, rfl, rfl, HZ0, rfl, World.ownsRow_nil _ _ _ _, hb1⟩
  case round =>
    obtain ⟨k, c', A', z, hkn, rfl, rfl, HZ, rfl, ho, hb⟩ := hrel
    have hbs := hb.size
    by_cases hlt : k < n
    · have hsm := evs_small f1 s k HFB.out.1 HFB.out.2 HS12.out.1 HS12.out.2 (by omega)
      have hzb : -1099511627776 ≤ z ∧ z ≤ 1099511627776 + 13107200 := by
        have h1 : 0 ≤ (k : Int) * s := Int.mul_nonneg (by omega) (by have := HS12.out; omega)
        have h2 : (k : Int) * s ≤ 200 * 65536 := Int.mul_le_mul (by omega) HS12.out.2 (by have := HS12.out; omega) (by omega)
        have := HFB.out
        have := HZ.out
        omega
      have hzn : z + (st : Int) + 1 = f1 + ((k + 1 : Nat) : Int) * s := by
        have e : ((k + 1 : Nat) : Int) * s = k * s + s := by push_cast; rw [Int.add_mul, Int.one_mul]
        have := HZ.out
        have := HS.out
        omega
      have hsn : ucs (evs f1 s v k) ++ [.int .i64 z, .int .u64 (v : Int)] = ucs (evs f1 s v (k + 1)) := by rw [ucs_snoc, evs_succ, hsm, ← HZ.out]
      have HZN := Lib.hid hzn
      have HSN := Lib.hid hsn
      clear hsm hzn hsn
      have hoA := ho.alloc (.cells #[.int .i64 z, .int .u64 (v : Int)] 58)
      have hnews : ∀ (j : Nat) (u : Value), ([.int .i64 z, .int .u64 (v : Int)] : List Value)[j]? = some u → (wr.alloc (.cells #[.int .i64 z, .int .u64 (v : Int)] 58)).cell? ((⟨wr.heap.size, 0, none⟩ : Addr).add j) = some u := by
        intro j u hj
        rw [Addr.add_mid]
        match j, hj with
        | 0, hj => simp at hj; subst hj; rw [World.cell?_alloc_new]; rfl
        | 1, hj => simp at hj; subst hj; rw [World.cell?_alloc_new]; rfl
      have hone : ∀ u ∈ ([.int .i64 z, .int .u64 (v : Int)] : List Value), u.oneCell' = true := by
        intro u hu
        simp at hu
        rcases hu with rfl | rfl <;> rfl
      have hbA : Below w.heap.size w (wr.alloc (.cells #[.int .i64 z, .int .u64 (v : Int)] 58)) := hb.alloc hb.size _
      go_wp2_with (at_builtin; go_loud (refine wpList_append_own_at _ rfl (.tmp 40) (.tmp 44) 46 rfl w.heap.size 58 iu _ 2 16 Tryd.underlying46 hiu hzz0 hzz1 hzz2 rfl (by omega) _ k (ucs (evs f1 s v k)) rfl hoA ⟨wr.heap.size, 0, none⟩ 1 1 [.int .i64 z, .int .u64 (v : Int)] rfl rfl hnews hone (by unfold maxLen; omega) (by omega) (by simp; omega) ?_); rw [HSN.out]; intro v2 w2 ho2 hg2 _ _; obtain ⟨A2, c2, rfl⟩ := OwnP.form (base := w.heap.size) ho2)
      go_roundw
      case rel =>
        have hb2 : Below w.heap.size w w2 := hbA.grown hg2 hbA.size (fun g hg => ho.base g hg)
        exact ⟨k + 1, c2, A2, z + (st : Int) + 1, by omega, by go_num, rfl, HZN, rfl, ho2, hb2⟩
      case measure => simp [intOf]; omega
    · obtain rfl : k = n := by omega
      obtain ⟨ss, hss⟩ : ∃ ss, ss = evs f1 s v k := ⟨_, rfl⟩
      rw [← hss] at ho
      have hnl : ss.length = k := by rw [hss, evs_len]
      obtain ⟨hx, hc1, hcm⟩ := ho.smps hnl
      have her : rightE ss = 0 := by rw [hss]; exact evs_right f1 s v k HFB.out.1 HFB.out.2 HS12.out.1 HS12.out.2 hpos hl
      have hrg : ∀ p ∈ ss, (-9223372036854775808 ≤ p.1 ∧ p.1 ≤ 9223372036854775807) ∧ p.2 < 18446744073709551616 := by rw [hss]; exact evs_range f1 s v k hv64
      obtain ⟨sa, hsa⟩ : ∃ sa, sa = cl ss 0 := ⟨_, rfl⟩
      obtain ⟨sb, hsb⟩ : ∃ sb, sb = cl ss 10 := ⟨_, rfl⟩
      obtain ⟨sc, hsc⟩ : ∃ sc, sc = cl ss 15 := ⟨_, rfl⟩
      have hsa2 : sa = 3 + 16 * k := by rw [hsa, cl_raw, hnl]
      have hsb2 : sb ≤ 56 := by rw [hsb, hss]; exact cl_few f1 s v k hv64 hpos hl
      have q1 : (3 : Int) + 16 * (k : Int) = (sa : Int) := by omega
      have q2 : decide ((sb : Int) ≤ 56) = true := by rw [decide_eq_true_iff]; omega
      have hsal : sa ≤ 5000 := by omega
      have HE := Lib.hid (fun (w1 : World) (j : Nat) (jz : Int) (hjz : jz = (j : Int)) (hj : j < 16) (sz : Nat) (hsz : sz = cl ss j) (hb1 : Below wr.heap.size wr w1) => encode_ok A' k c' j jz ss w1 hjz hj hnl (hx.below hb1) hc1 hcm her hrg (HT.out.below (hb.trans (hb1.mono hb.size))) (HK.out.below (hb.trans (hb1.mono hb.size))) _ sz rfl hsz.symm)
      have HB := Lib.hid (fun (w1 : World) (hb1 : Below wr.heap.size wr w1) => best_ok A' k c' ss w1 hnl (hx.below hb1) hc1 hcm her hrg (HT.out.below (hb.trans (hb1.mono hb.size))) (HK.out.below (hb.trans (hb1.mono hb.size))))
      have HSA := Lib.hid hsa
      have HSB := Lib.hid hsb
      have HSC := Lib.hid hsc
      clear hss hnl hx her hrg hsa hsb hsc ho hsa2 hsb2
      go_wp2_with (first
        | (go_at_call 27; first | (with_reducible refine (codec_to 2 2 10 (by omega) (by omega) (by omega) (by omega) (by omega) _).mono ?_; rintro e w9 ⟨rfl, rfl⟩) | (with_reducible refine (codec_to 3 3 15 (by omega) (by omega) (by omega) (by omega) (by omega) _).mono ?_; rintro e w9 ⟨rfl, rfl⟩))
        | (go_at_call 23; with_reducible refine (HE.out _ 0 0 rfl (by omega) sa HSA.out (Below.refl _ _)).mono ?_; rintro e wa ⟨Aa, ca, rfl, hxa, hca, hma, hba⟩)
        | (go_at_call 23; with_reducible refine (HE.out _ 10 10 rfl (by omega) sb HSB.out hba).mono ?_; rintro e wb ⟨Ab, cb', rfl, hxb, hcb, hmb, hbb0⟩; have hbb := hba.trans (hbb0.mono hba.size))
        | (go_at_call 23; with_reducible refine (HE.out _ 15 15 rfl (by omega) sc HSC.out hbb).mono ?_; rintro e wc ⟨Ac, cc, rfl, hxc, hcc, hmc, hbc0⟩; have hbc := hbb.trans (hbc0.mono hbb.size))
        | (go_at_call 24; with_reducible refine (HB.out _ hbc).mono ?_; rintro e wd2 ⟨bst, rfl, HBE, hbd0⟩; have hbd2 := hbc.trans (hbd0.mono hbc.size); obtain ⟨sx, hsx⟩ : ∃ sx, sx = cl ss bst := ⟨_, rfl⟩; have dx1 : sx ≤ sa := (by have := HBE.out.2 0 (by omega); have := HSA.out; omega); have dx2 : sx ≤ sb := (by have := HBE.out.2 10 (by omega); have := HSB.out; omega); have dx3 : sx ≤ sc := (by have := HBE.out.2 15 (by omega); have := HSC.out; omega); have dn1 : decide (sx ≤ sa) = true := decide_eq_true dx1; have dn2 : decide (sx ≤ sb) = true := decide_eq_true dx2; have dn3 : decide (sx ≤ sc) = true := decide_eq_true dx3; have HSX := Lib.hid hsx; clear hsx)
        | (go_at_call 23; with_reducible refine (HE.out _ bst _ rfl HBE.out.1 sx HSX.out hbd2).mono ?_; rintro e we ⟨Ae, ce, rfl, hxe, hce, hme, hbe0⟩; have hbe := hbd2.trans (hbe0.mono hbd2.size))
        | (go_at_call 25; refine (codes_any _).mono ?_; rintro e wg ⟨rfl, hbg0⟩; have hbg := hbe.trans (hbg0.mono hbe.size)))
      go_ret
      exact ⟨rfl, hb.trans (hbg.mono hb.size)⟩
end Go.Proofs.YtanljjpjhihgcaaDoor

namespace Go.Proofs.YtanljjpjhihgcaaDoor
open Go
set_option maxRecDepth 100000

abbrev laidBoth : List (String × DataW Unit) := [("math/bits.deBruijn64tab", Rows.laid_math_bits_deBruijn64tab), ("rick/times.kinds", Rows.laid_rick_times_kinds)]
theorem both_met (os : Os) (args : Array Value) : laidMetH Tryd.prog laidBoth ((World.doorLaid Tryd.prog 23 os).forCall (fun _ _ => 0) ⟨#[], args, []⟩).memory :=
  laidMetH_of_parts3 (fuel := 8) (laidMet_of_run' 8 (by kernel_rfl) (by kernel_rfl)) (by kernel_rfl) (by kernel_rfl)
theorem both_any {W : World} (h : laidMetH Tryd.prog laidBoth W) : True := True.intro
end Go.Proofs.YtanljjpjhihgcaaDoor

namespace Go.Proofs.YtanljjpjhihgcaaDoor
open Go Go.RowKit BitM Go.ChangeShapes Go.WideShapes Go.ChangeAt
set_option maxRecDepth 100000
set_option linter.unusedVariables false
theorem gKinds : Tryd.prog.globalNamed "rick/times.kinds" = some 0 := by kernel_rfl
theorem gKindsType : (Tryd.prog.globals[(0 : Nat)]?).map (·.type) = some 99 := by kernel_rfl
theorem cKind : Tryd.prog.cellsOf 98 = 2 := by kernel_rfl
theorem cKinds : Tryd.prog.cellsOf 99 = 8 := by kernel_rfl
theorem cInt : Tryd.prog.cellsOf 3 = 1 := by kernel_rfl
theorem gTab : Tryd.prog.globalNamed "math/bits.deBruijn64tab" = some 1 := by kernel_rfl
theorem gTabType : (Tryd.prog.globals[1]?).map (·.type) = some 107 := by kernel_rfl
theorem cTab8 : Tryd.prog.cellsOf 5 = 1 := by kernel_rfl
theorem cTab : Tryd.prog.cellsOf 107 = 64 := by kernel_rfl
theorem kind_cells {H : Type} {enc : TypeId × Value → H} {w : World} {base : Nat} {sp : Nat → Bool} {held : Bool} {fuel : Nat} {cs : List Value} {a b : Int} {p : List MemPlace}
    (h : DataW.trod enc Tryd.prog w base sp held fuel 98 cs = some (.agg [.lit (.int .i64 a), .lit (.int .i64 b)], p)) : cs = [.int .i64 a, .int .i64 b] := by
  obtain ⟨y0, y1, n, hx, hl, h0, h1⟩ := Go.ChangeShapes.trod_struct2 Tryd.underlying98 h
  rw [cKind] at hl
  match cs, hl with
  | [c0, c1], _ =>
    simp only [cInt] at h0 h1
    obtain ⟨m0, e0, e0', _⟩ := DataW.trod_int Tryd.underlying3 h0
    obtain ⟨m1, e1, e1', _⟩ := DataW.trod_int Tryd.underlying3 h1
    subst e0' e1'
    simp at hx e0 e1
    obtain ⟨⟨rfl, rfl⟩, _⟩ := hx
    subst e0 e1
    rfl

theorem laidBoth_eq : (laidBoth : List (String × DataW Unit)) = ("math/bits.deBruijn64tab", Lib.tabData .u8 (deB.map fun (n : Nat) => (n : Int))) :: [("rick/times.kinds", Rows.laid_rick_times_kinds)] := rfl
theorem tab_of_both {W : World} (h : laidMetH Tryd.prog laidBoth W) : TabAt W := by
  rw [MakeChecks.laidMetH_plain _ _ _ (by kernel_rfl), laidBoth_eq] at h
  have hT := Lib.tabIs_of_head gTab gTabType Tryd.underlying107 Tryd.underlying5 cTab8 cTab h
  intro i hi
  have hc := hT.cell gTab i (by simpa [deB] using hi)
  rw [hc]
  congr 2
  rw [List.getD_eq_getElem?_getD, List.getD_eq_getElem?_getD, List.getElem?_map]
  have : i < deB.length := by simpa [deB] using hi
  rw [List.getElem?_eq_getElem this]
  rfl
theorem kinds_of_both {W : World} (h : laidMetH Tryd.prog laidBoth W) : KindsAt W := by
  rw [MakeChecks.laidMetH_plain _ _ _ (by kernel_rfl)] at h
  obtain ⟨ps, ⟨_, _, _, _, _, _, _, _, _, _, ⟨g', t', cs, fuel, p, q, hg', ht', hvar, hd, _, _⟩, _⟩, _⟩ := h
  obtain rfl := Option.some.inj (gKinds.symm.trans hg')
  obtain rfl := Option.some.inj (gKindsType.symm.trans ht')
  obtain ⟨xs, m, _, hx, hlen, hn, hel⟩ := DataW.trod_array Tryd.underlying99 hd
  rw [cKinds] at hlen
  rw [cKind] at hel
  have hx1 := (Prod.mk.inj hx).1
  unfold Rows.laid_rick_times_kinds at hx1
  have hcells : cs.toList = [.int .i64 0, .int .i64 0, .int .i64 1, .int .i64 7, .int .i64 2, .int .i64 9, .int .i64 3, .int .i64 12] := by
    obtain ⟨l⟩ := cs
    simp only at hlen hel ⊢
    match xs, hn, l, hlen with
    | [x0, x1, x2, x3], _, [c0, c1, c2, c3, c4, c5, c6, c7], _ =>
      simp only [List.map_cons, List.map_nil, DataW.agg.injEq, List.cons.injEq, and_true] at hx1
      obtain ⟨a0, a1, a2, a3⟩ := hx1
      have h0 := hel 0 (by decide)
      have h1 := hel 1 (by decide)
      have h2 := hel 2 (by decide)
      have h3 := hel 3 (by decide)
      have k0 := kind_cells (h0.trans (show some x0 = some (DataW.agg [.lit (.int .i64 0), .lit (.int .i64 0)], x0.2) by rw [a0]))
      have k1 := kind_cells (h1.trans (show some x1 = some (DataW.agg [.lit (.int .i64 1), .lit (.int .i64 7)], x1.2) by rw [a1]))
      have k2 := kind_cells (h2.trans (show some x2 = some (DataW.agg [.lit (.int .i64 2), .lit (.int .i64 9)], x2.2) by rw [a2]))
      have k3 := kind_cells (h3.trans (show some x3 = some (DataW.agg [.lit (.int .i64 3), .lit (.int .i64 12)], x3.2) by rw [a3]))
      simp at k0 k1 k2 k3
      obtain ⟨rfl, rfl⟩ := k0
      obtain ⟨rfl, rfl⟩ := k1
      obtain ⟨rfl, rfl⟩ := k2
      obtain ⟨rfl, rfl⟩ := k3
      rfl
  have hcs : cs = #[.int .i64 0, .int .i64 0, .int .i64 1, .int .i64 7, .int .i64 2, .int .i64 9, .int .i64 3, .int .i64 12] := by
    apply Array.toList_inj.1
    rw [hcells]
  subst hcs
  unfold World.var? at hvar
  rw [gKinds] at hvar
  simp only [Option.bind_some] at hvar
  unfold KindsAt
  split at hvar
  · rename_i cs' t' fr' hh
    injection hvar with hvar
    subst hvar
    exact ⟨_, _, hh⟩
  · cases hvar
theorem both_tables {W : World} (h : laidMetH Tryd.prog laidBoth W) : TabAt W ∧ KindsAt W := ⟨tab_of_both h, kinds_of_both h⟩
set_option maxRecDepth 100000 in
theorem open_pair64 {H : Type} {enc : TypeId × Value → H} {W : World} {base b0 : Nat} {spare : Nat → Bool} {held : Bool} {r : Reach} {v : Value} {d : DataW H} {p : List MemPlace}
    (hv : Value.okWide Tryd.prog W r b0 56 v) (h : DataW.Trod enc Tryd.prog W base spare held 56 v d p) :
    ∃ a b : Int, v = .agg #[.int .u64 a, .int .u64 b] ∧ (Lit.int .u64 a).wf = true ∧ (Lit.int .u64 b).wf = true := by
  have hC : Tryd.prog.cellsOf 56 = 2 := by kernel_rfl
  have hc1 : Tryd.prog.cellsOf 22 = 1 := by kernel_rfl
  obtain ⟨cs, rfl, hsz⟩ : ∃ cs, v = .agg cs ∧ cs.size = 2 := by
    simp only [Value.okWide, Tryd.underlying56] at hv
    obtain ⟨cs, h1, h2, _⟩ := hv
    exact ⟨cs, h1, h2.trans hC⟩
  obtain ⟨fuel, hf⟩ := h
  obtain ⟨xs, m, _, _, _, hlx, hx⟩ := DataW.trod_array Tryd.underlying56 hf
  obtain ⟨l⟩ := cs
  match l, hsz with
  | [c0, c1], _ =>
    have h0 := hx 0 (by omega)
    have h1 := hx 1 (by omega)
    rw [hc1] at h0 h1
    obtain ⟨z0, e0, _, w0⟩ := DataW.trod_int Tryd.underlying22 (h0.trans (List.getElem?_eq_getElem (by omega)))
    obtain ⟨z1, e1, _, w1⟩ := DataW.trod_int Tryd.underlying22 (h1.trans (List.getElem?_eq_getElem (by omega)))
    simp [Value.cells] at e0 e1
    subst e0 e1
    exact ⟨z0, z1, rfl, w0, w1⟩

end Go.Proofs.YtanljjpjhihgcaaDoor
