/- Both sides of a map's calls together: Take, Give, Get of Put; maps of the reference compared. -/
import Derived.Test.YtobfepkeikecoaaBmH
namespace Go.Proofs.Ytobfepkeikecoaa
open Go.RowKit PageM
set_option linter.unusedVariables false

theorem eq_mapR_d (d : Nat) (p : Int) (U : List Bool) (hU : U.length = 512) (w : World) : (Op.equalIn (d + 1 + 1 + 1) 27 (.agg (mapC p U)) (.agg (mapC p U))).run Try.prog w = .ok true w := by
  have ht : Try.prog.underlying 27 = some (.struct (Try.prog.fieldsOf 27)) := by kernel_rfl
  have hp : Try.prog.stoodInHeld 27 = false := by kernel_rfl
  have hc1 : Try.prog.cellsOf 4 = 1 := by kernel_rfl
  have hf : (Try.prog.fieldsOf 27).toList = [⟨"Pages", 3, 0, false, "", "", 0⟩, ⟨"Used", 23, 1, false, "", "", 8⟩] := by kernel_rfl
  have hk : Try.prog.plainKey 3 = true := by kernel_rfl
  have hkb : Try.prog.plainKey 4 = true := by kernel_rfl
  have hua : Try.prog.underlying 23 = some (.array 512 4) := by kernel_rfl
  obtain ⟨ib, hib⟩ := Option.isSome_iff_exists.1 (show (Try.prog.info? 4).isSome = true by kernel_rfl)
  obtain ⟨ia, hia⟩ := Option.isSome_iff_exists.1 (show (Try.prog.info? 23).isSome = true by kernel_rfl)
  have hc5 : Try.prog.cellsOf 23 = 512 := by kernel_rfl
  have hsz := run_sizeOf w hia
  rw [hc5] at hsz
  have e1 := run_part_plain (P := Try.prog) w hk (xs := mapC p U) (off := 0) (mapC_0 p U)
  have e2 := run_equalIn_int (P := Try.prog) w (d + 1) 3 .i64 .i64 p p Try.underlying3
  have hA : (isAgg 23).run Try.prog w = .ok true w := by simp [isAgg, run_underlying hua]
  have e3 : (part 23 (mapC p U) 1).run Try.prog w = .ok (.agg (U.map Value.bool).toArray) w := by
    simp only [part, Sem.run_bind, hA, Result.andThen_ok, if_true, hsz, Sem.run_pure, map_extract p U hU]
  have e4 := run_equalIn_array (P := Try.prog) w (d + 1) (U.map Value.bool).toArray (U.map Value.bool).toArray hua hib
  rw [hc1] at e4
  have e5 := eqItems_same (P := Try.prog) w d hkb Try.underlying4 (U.map Value.bool).toArray (List.range 512) (fun i hi => by
    have hi' : i < U.length := by rw [hU]; exact List.mem_range.1 hi
    exact ⟨U[i]'hi', by rw [List.getElem?_toArray, List.getElem?_map, List.getElem?_eq_getElem hi']; rfl⟩)
  have e6 := run_equalIn_agg (P := Try.prog) w (d + 1 + 1) 27 (mapC p U) (mapC p U) ht hp
  rw [hf] at e6
  rw [e6]
  rw [e5] at e4
  exact eqFields_two w (d + 1 + 1) (mapC p U) _ _ (by decide) (by decide) _ _ e1 (by rw [e2]; simp) e3 e4
theorem neq_mapR (p : Int) (U : List Bool) (hU : U.length = 512) (C : Array Value) (eC : C = mapC p U) (w : World) : (binOp .neq 27 (.agg C) (.agg C)).run Try.prog w = .ok (.bool false) w := by
  have h := run_neq_struct (P := Try.prog) w 27 (mapC p U) (mapC p U)
  have hk : (Op.equalIn 10000 27 (.agg (mapC p U)) (.agg (mapC p U))).run Try.prog w = .ok true w := eq_mapR_d 9997 p U hU w
  rw [eC, h, hk]
  rfl
theorem guard_mapR (op : BinOp) (x y : Operand) (C D : Array Value) (w : World) : (eqGuard op 27 x y (.agg C) (.agg D)).run Try.prog w = .ok () w := run_eqGuard_agg w op _ x y C D (by kernel_rfl)

theorem ok_used {p : Nat} {U : List Bool} (hU : U.length = 512) (h : okM (p : Int) U) : (∀ j, j < 2 → U.getD j false = true) ∧ (∀ j, p ≤ j → U.getD j false = false) := by
  constructor
  · intro j hj
    have := h.2.2 j (by omega)
    unfold okAt at this
    rw [decide_eq_true hj] at this
    simp at this
    simpa using this.1
  · intro j hj
    rcases Nat.lt_or_ge j 512 with hl | hl
    · have := h.2.2 j hl
      unfold okAt at this
      rw [decide_eq_true (by omega : (p : Int) ≤ (j : Int))] at this
      simp at this
      simpa using this.2
    · rw [List.getD_eq_getElem?_getD, List.getElem?_eq_none (by omega)]
      rfl
theorem ok_mark {p : Nat} {U : List Bool} (hU : U.length = 512) (h : okM (p : Int) U) (a n : Nat) (ha : 2 ≤ a) (han : a + n ≤ p) (b : Bool) : okM (p : Int) (markN U a b n) := by
  have hp5 : p ≤ 512 := by have := h.2.1; omega
  have hp8 : 8 ≤ p := by have := h.1; omega
  obtain ⟨h1, h2⟩ := ok_used hU h
  refine ok_of hp8 hp5 (fun j hj => ?_) (fun j hj => ?_)
  · rw [getD_markN _ _ _ _ _ (by omega), if_neg (by omega)]; exact h1 j hj
  · rw [getD_markN _ _ _ _ _ (by omega), if_neg (by omega)]; exact h2 j hj

theorem least_of (P : Nat → Prop) : ∀ n a, a < n → P a → ∃ b, P b ∧ ∀ c, c < b → ¬ P c
  | 0, a, h, _ => by omega
  | n + 1, a, h, hp => by
    rcases Classical.em (∃ c, c < a ∧ P c) with ⟨c, hc, hpc⟩ | hno
    · exact least_of P n c (by omega) hpc
    · exact ⟨a, hp, fun c hc hpc => hno ⟨c, hc, hpc⟩⟩

theorem take_both (p : Nat) (U V : List Bool) (hU : U.length = 512) (hV : V.length = 512) (okU : okM (p : Int) U) (okV : okM (p : Int) V) (z : Int) (C D : Array Value) (eC : C = mapC (p : Int) U) (eD : D = mapC (p : Int) V) :
    ∃ (P' : Int) (U' : List Bool) (E : Array Value) (at_ : Int) (er : Nat), E = mapC P' U' ∧ U'.length = 512 ∧ ((er = 0 ∧ P' = (p : Int) ∧ okM (p : Int) U') ∨ er ≠ 0) ∧
      (∀ W, Calls Try.prog 12 #[.agg C, .agg D, .int .i64 z] W fun e w' => e = .returned (.tuple #[.agg E, .int .i64 at_, .int .i64 (er : Int)]) ∧ Below W.heap.size W w') ∧
      (∀ W, Calls Try.prog 13 #[.agg C, .agg D, .int .i64 z] W fun e w' => e = .returned (.tuple #[.agg E, .int .i64 at_, .int .i64 (er : Int)]) ∧ Below W.heap.size W w') := by
  by_cases hz : z < 1
  · refine ⟨0, List.replicate 512 false, _, 0, 1, rfl, List.length_replicate, .inr (by omega), fun W => ?_, fun W => ?_⟩
    · rw [← zeroMap]
      exact take_arg (p : Int) (p : Int) U V hU hV z (.inr hz) W C D eC eD
    · rw [← zeroMapR]
      exact rtake_arg p U V hU hV okU okV z hz W C D eC eD
  · obtain ⟨n, rfl⟩ := Int.eq_ofNat_of_zero_le (show 0 ≤ z by omega)
    have hn1 : 1 ≤ n := by omega
    rcases Classical.em (∃ a, fits p U V n a) with ⟨a, h⟩ | hno
    · obtain ⟨b, hb, hl⟩ := least_of (fits p U V n) (a + 1) a (by omega) h
      refine ⟨(p : Int), markN U b true n, _, (b : Int), 0, rfl, by rw [length_markN, hU], .inl ⟨rfl, rfl, ok_mark hU okU b n (fits_two okU hn1 hb) hb.1 true⟩, fun W => ?_, fun W => ?_⟩
      · exact take_yes p U V hU hV okU okV n n rfl hn1 b hb hl W C D eC eD
      · refine (rtake_bm p U V hU hV okU okV n hn1 W C D eC eD).mono fun e w' ⟨hr, hbl⟩ => ⟨?_, hbl⟩
        rcases hr with ⟨a', h1, h2, h3⟩ | ⟨h1, _⟩
        · rcases Nat.lt_trichotomy b a' with h | h | h
          · exact absurd hb (h2 b h)
          · rw [h]; exact h3
          · exact absurd h1 (hl a' h)
        · exact absurd hb (h1 b)
    · have hno' : ∀ a, ¬ fits p U V n a := fun a h => hno ⟨a, h⟩
      refine ⟨0, List.replicate 512 false, _, 0, 5, rfl, List.length_replicate, .inr (by omega), fun W => ?_, fun W => ?_⟩
      · rw [← zeroMap]
        exact take_no p U V hU hV okU okV n n rfl hn1 hno' W C D eC eD
      · rw [← zeroMapR]
        refine (rtake_bm p U V hU hV okU okV n hn1 W C D eC eD).mono fun e w' ⟨hr, hbl⟩ => ⟨?_, hbl⟩
        rcases hr with ⟨a', h1, _⟩ | ⟨_, h1⟩
        · exact absurd h1 (hno' a')
        · exact h1

theorem give_both (p : Nat) (U : List Bool) (hU : U.length = 512) (okU : okM (p : Int) U) (za zn : Int) (hzn : -9223372036854775808 ≤ zn) (hzn2 : zn ≤ 9223372036854775807) (C : Array Value) (eC : C = mapC (p : Int) U) :
    ∃ (P' : Int) (U' : List Bool) (E : Array Value) (er : Nat), E = mapC P' U' ∧ U'.length = 512 ∧ ((er = 0 ∧ P' = (p : Int) ∧ okM (p : Int) U') ∨ er ≠ 0) ∧
      (∀ W, Calls Try.prog 14 #[.agg C, .int .i64 za, .int .i64 zn] W fun e w' => e = .returned (.tuple #[.agg E, .int .i64 (er : Int)]) ∧ Below W.heap.size W w') ∧
      (∀ W, Calls Try.prog 15 #[.agg C, .int .i64 za, .int .i64 zn] W fun e w' => e = .returned (.tuple #[.agg E, .int .i64 (er : Int)]) ∧ Below W.heap.size W w') := by
  by_cases hbad : zn < 0 ∨ za < 2 ∨ (p : Int) - zn < za
  · refine ⟨0, List.replicate 512 false, _, 1, rfl, List.length_replicate, .inr (by omega), fun W => ?_, fun W => ?_⟩
    · rw [← zeroMap]
      exact give_arg (p : Int) U hU za zn (.inr hbad) hzn hzn2 W C eC
    · rw [← zeroMapR]
      exact rgive_arg p U hU okU za zn hbad hzn hzn2 W C eC
  · obtain ⟨n, rfl⟩ := Int.eq_ofNat_of_zero_le (show 0 ≤ zn by omega)
    obtain ⟨a, rfl⟩ := Int.eq_ofNat_of_zero_le (show 0 ≤ za by omega)
    have ha : 2 ≤ a := by omega
    have han : a + n ≤ p := by omega
    rcases Nat.eq_zero_or_pos n with rfl | hn1
    · refine ⟨(p : Int), U, C, 0, eC, hU, .inl ⟨rfl, rfl, okU⟩, fun W => ?_, fun W => ?_⟩
      · exact give_zero p U hU okU a ha (by omega) W C eC
      · refine (rgive_bm p U hU okU a 0 ha han W C eC).mono fun e w' ⟨hr, hbl⟩ => ⟨?_, hbl⟩
        rcases hr with ⟨_, h3⟩ | ⟨⟨j, hj, _⟩, _⟩
        · rw [h3, eC]; rfl
        · omega
    · rcases Classical.em (∃ j, j < n ∧ U.getD (a + j) false = false) with hno | hall
      · refine ⟨0, List.replicate 512 false, _, 10, rfl, List.length_replicate, .inr (by omega), fun W => ?_, fun W => ?_⟩
        · rw [← zeroMap]
          refine (give_bm p U hU okU a n hn1 ha han W C eC).mono fun e w' ⟨hr, hbl⟩ => ⟨?_, hbl⟩
          rcases hr with ⟨h2, _⟩ | ⟨_, h3⟩
          · obtain ⟨j, hj, h1⟩ := hno
            rw [h2 j hj] at h1
            cases h1
          · exact h3
        · rw [← zeroMapR]
          refine (rgive_bm p U hU okU a n ha han W C eC).mono fun e w' ⟨hr, hbl⟩ => ⟨?_, hbl⟩
          rcases hr with ⟨h2, _⟩ | ⟨_, h3⟩
          · obtain ⟨j, hj, h1⟩ := hno
            rw [h2 j hj] at h1
            cases h1
          · exact h3
      · refine ⟨(p : Int), markN U a false n, _, 0, rfl, by rw [length_markN, hU], .inl ⟨rfl, rfl, ok_mark hU okU a n ha han false⟩, fun W => ?_, fun W => ?_⟩
        · refine (give_bm p U hU okU a n hn1 ha han W C eC).mono fun e w' ⟨hr, hbl⟩ => ⟨?_, hbl⟩
          rcases hr with ⟨_, h3⟩ | ⟨h2, _⟩
          · exact h3
          · exact absurd h2 hall
        · refine (rgive_bm p U hU okU a n ha han W C eC).mono fun e w' ⟨hr, hbl⟩ => ⟨?_, hbl⟩
          rcases hr with ⟨_, h3⟩ | ⟨h2, _⟩
          · exact h3
          · exact absurd h2 hall

/-- The bits of a map's bytes are its pages. -/
theorem bmN_head (p : Nat) (U : List Bool) (j : Nat) (hj : j < 2) : ∀ k, (bmN p U k).getD j 0 = (be p 2).getD j 0
  | 0 => by
    show (be p 2 ++ _).getD j 0 = _
    rw [List.getD_eq_getElem?_getD, List.getElem?_append_left (by rw [length_be]; exact hj), ← List.getD_eq_getElem?_getD]
  | k + 1 => by
    unfold bmN
    split
    · rw [List.getD_eq_getElem?_getD, List.getElem?_set_ne (by omega), ← List.getD_eq_getElem?_getD]
      exact bmN_head p U j hj k
    · exact bmN_head p U j hj k
theorem bitOf_eq (xs : List UInt8) (i : Nat) : bitOf xs i = (xs.getD (2 + i / 8) 0).toNat.testBit (i % 8) := by
  unfold bitOf
  rw [Nat.testBit_eq_decide_div_mod_eq]
theorem bit_bmN (p : Nat) (U : List Bool) (i : Nat) : ∀ k, k ≤ p → bitOf (bmN p U k) i = (decide (i < k) && U.getD i false)
  | 0, _ => by
    rw [bitOf_eq]
    show ((be p 2 ++ List.replicate ((p + 7) / 8) (0 : UInt8)).getD (2 + i / 8) 0).toNat.testBit (i % 8) = _
    have h : (be p 2 ++ List.replicate ((p + 7) / 8) (0 : UInt8)).getD (2 + i / 8) 0 = 0 := by
      rw [List.getD_eq_getElem?_getD, List.getElem?_append_right (by rw [length_be]; omega), List.getElem?_replicate]
      split <;> rfl
    rw [h]
    simp
  | k + 1, hk => by
    have ih := bit_bmN p U i k (by omega)
    have hst : bmN p U (k + 1) = if U.getD k false then (bmN p U k).set (2 + k / 8) ((bmN p U k).getD (2 + k / 8) 0 ||| UInt8.ofNat (2 ^ (k % 8))) else bmN p U k := rfl
    by_cases hu : U.getD k false = true
    · rw [hst, if_pos hu]
      rw [bitOf_eq] at ih ⊢
      have hlen : 2 + k / 8 < (bmN p U k).length := by rw [length_bmN]; omega
      by_cases hq : i / 8 = k / 8
      · have e1 : ((bmN p U k).set (2 + k / 8) ((bmN p U k).getD (2 + k / 8) 0 ||| UInt8.ofNat (2 ^ (k % 8)))).getD (2 + i / 8) 0 = (bmN p U k).getD (2 + i / 8) 0 ||| UInt8.ofNat (2 ^ (k % 8)) := by
          rw [hq, List.getD_eq_getElem?_getD, List.getElem?_set_self hlen]
          rfl
        have h8 : k % 8 < 8 := Nat.mod_lt _ (by omega)
        have e2 : (UInt8.ofNat (2 ^ (k % 8))).toNat = 2 ^ (k % 8) := by
          rw [UInt8.toNat_ofNat']
          have : 2 ^ (k % 8) < 2 ^ 8 := Nat.pow_lt_pow_right (by omega) h8
          exact Nat.mod_eq_of_lt this
        rw [e1, UInt8.toNat_or, Nat.testBit_or, e2, Nat.testBit_two_pow, ih]
        by_cases hik : i = k
        · subst hik
          simp
          simpa using hu
        · have h9 : ¬ k % 8 = i % 8 := by omega
          rw [decide_eq_false h9, Bool.or_false]
          by_cases hl : i < k
          · rw [decide_eq_true hl, decide_eq_true (by omega : i < k + 1)]
          · rw [decide_eq_false hl, decide_eq_false (by omega : ¬ i < k + 1)]
      · have e1 : ((bmN p U k).set (2 + k / 8) ((bmN p U k).getD (2 + k / 8) 0 ||| UInt8.ofNat (2 ^ (k % 8)))).getD (2 + i / 8) 0 = (bmN p U k).getD (2 + i / 8) 0 := by
          rw [List.getD_eq_getElem?_getD, List.getElem?_set_ne (by omega), ← List.getD_eq_getElem?_getD]
        rw [e1, ih]
        by_cases hl : i < k
        · rw [decide_eq_true hl, decide_eq_true (by omega : i < k + 1)]
        · rw [decide_eq_false hl, decide_eq_false (by omega : ¬ i < k + 1)]
    · rw [hst, if_neg hu, ih]
      by_cases hik : i = k
      · subst hik
        have : U.getD i false = false := by simpa using hu
        rw [this]
        simp
      · by_cases hl : i < k
        · rw [decide_eq_true hl, decide_eq_true (by omega : i < k + 1)]
        · rw [decide_eq_false hl, decide_eq_false (by omega : ¬ i < k + 1)]
theorem getD_getN (xs : List UInt8) (i : Nat) : ∀ k, k ≤ 512 → (getN xs k).getD i false = (decide (i < k) && bitOf xs i)
  | 0, _ => by
    show (List.replicate 512 false).getD i false = _
    rw [List.getD_eq_getElem?_getD, List.getElem?_replicate]
    split <;> simp
  | k + 1, hk => by
    have ih := getD_getN xs i k (by omega)
    show ((getN xs k).set k (bitOf xs k)).getD i false = _
    rw [getD_set' _ _ _ _ (by rw [length_getN]; omega), ih]
    by_cases hik : i = k
    · rw [if_pos hik, hik, decide_eq_true (by omega : k < k + 1)]; rfl
    · rw [if_neg hik]
      by_cases hl : i < k
      · rw [decide_eq_true hl, decide_eq_true (by omega : i < k + 1)]
      · rw [decide_eq_false hl, decide_eq_false (by omega : ¬ i < k + 1)]
theorem got_put {p : Nat} {U : List Bool} (hU : U.length = 512) (h : okM (p : Int) U) : toldMC (bmN p U p) = mapC (p : Int) U ∧ numM (bmN p U p) = 0 := by
  have hp5 : p ≤ 512 := by have := h.2.1; omega
  have hgp : gotP (bmN p U p) = p := by
    unfold gotP
    rw [bmN_head p U 0 (by omega), bmN_head p U 1 (by omega)]
    show (UInt8.ofNat (p / 256)).toNat * 256 + (UInt8.ofNat p).toNat = p
    rw [UInt8.toNat_ofNat', UInt8.toNat_ofNat']
    omega
  have hgl : gotL (bmN p U p) = p := by
    unfold gotL
    rw [hgp, length_bmN]
    omega
  have hgu : gotU (bmN p U p) = U := by
    apply List.ext_getElem (by rw [length_gotU, hU])
    intro i h1 h2
    have h3 : (gotU (bmN p U p)).getD i false = U.getD i false := by
      unfold gotU
      rw [hgl, getD_getN _ _ _ hp5, bit_bmN p U i p (Nat.le_refl _)]
      by_cases hl : i < p
      · rw [decide_eq_true hl]; rfl
      · rw [decide_eq_false hl, (ok_used hU h).2 i (by omega)]; rfl
    rw [List.getD_eq_getElem?_getD, List.getD_eq_getElem?_getD, List.getElem?_eq_getElem h1, List.getElem?_eq_getElem h2] at h3
    exact h3
  have hg : goodM (bmN p U p) := by
    refine ⟨by rw [length_bmN]; omega, ?_⟩
    rw [hgp, hgu]
    unfold bmPut
    rw [if_pos h, Int.toNat_natCast]
  constructor
  · unfold toldMC
    rw [if_pos hg, hgp, hgu]
  · exact if_pos hg
end Go.Proofs.Ytobfepkeikecoaa
