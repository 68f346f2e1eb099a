/- The reference's free: are so many pages from one on free in both maps? -/
import Derived.Test.YtobfepkeikecoaaBmX
namespace Go.Proofs.Ytobfepkeikecoaa
open Go.RowKit PageM
set_option linter.unusedVariables false

instance (p : Nat) (U V : List Bool) (n a : Nat) : Decidable (fits p U V n a) := by unfold fits; infer_instance

set_option maxHeartbeats 1000000 in
set_option maxRecDepth 100000 in
theorem free_rf (p : Nat) (U V : List Bool) (hU : U.length = 512) (hV : V.length = 512) (hp : p ≤ 512) (q : Int) (za zn : Int) (a n : Nat) (hza : za = (a : Int)) (hzn : zn = (n : Int)) (hn1 : 1 ≤ n) (han : a + n ≤ 100000) (w : World) (C D : Array Value) (eC : C = mapC (p : Int) U) (eD : D = mapC q V) (r : Bool) (hr : r = decide (fits p U V n a)) :
    Calls Try.prog 41 #[.agg C, .agg D, .int .i64 za, .int .i64 zn] w fun e w' => e = .returned (.bool r) ∧ Below w.heap.size w w' := by
  subst hza hzn
  have hm : MapAt ((w.alloc (.cells C 27)).alloc (.cells D 27)) w.heap.size 27 (p : Int) U := by rw [eC]; exact (MapAt.new w _ _ U).alloc _
  have hm2 : MapAt ((w.alloc (.cells C 27)).alloc (.cells D 27)) (w.heap.size + 1) 27 q V := by rw [eD]; have := MapAt.new (w.alloc (.cells C 27)) 27 q V; simpa using this
  have HM := Lib.hid hm
  have HM2 := Lib.hid hm2
  have k0 := hm.c0
  have HBL : Hid (Below w.heap.size w ((w.alloc (.cells C 27)).alloc (.cells D 27))) := Lib.hid (((Below.refl _ _).alloc (Nat.le_refl _) _).alloc (by simp) _)
  have HR := Lib.hid hr
  have no : Hid (¬ fits p U V n a → r = false) := Lib.hid (fun h => by rw [hr]; exact decide_eq_false h)
  clear eC eD hm hm2 hr
  go_enter Try.func41, Try.ntmps41
  go_wp2_with fail
  go_loop [9] (fun i => ∃ k : Nat, a ≤ k ∧ k ≤ a + n ∧ i = .int .i64 (k : Int) ∧ Hid (∀ j, a ≤ j → j < k → j < p ∧ U.getD j false = false ∧ V.getD j false = false)) (fun i => a + n - (intOf i).toNat)
  case atStart => exact ⟨a, by omega, by omega, rfl, Lib.hid (fun j h1 h2 => by omega)⟩
  case round =>
    obtain ⟨i, hai, hk, rfl, hall⟩ := hrel
    by_cases hlt : i < a + n
    · have e1 : decide ((i : Int) < (a : Int) + (n : Int)) = true := by simp; omega
      have e1' : decide (i < a + n) = true := by simp; omega
      by_cases hip : p ≤ i
      · have e2 : decide ((p : Int) ≤ (i : Int)) = true := by simp; omega
        have e2' : decide (p ≤ i) = true := by simp; omega
        have HNO : Hid (¬ fits p U V n a) := Lib.hid (fun h => by have := h.1; omega)
        go_wp2_with fail
        go_ret
        exact ⟨by rw [no.out HNO.out]; rfl, HBL.out⟩
      · have e2 : decide ((p : Int) ≤ (i : Int)) = false := by simp; omega
        have e2' : decide (p ≤ i) = false := by simp; omega
        have hc := HM.out.cs i (by omega)
        have hd := HM2.out.cs i (by omega)
        obtain ⟨u, hu⟩ : ∃ u, u = U.getD i false := ⟨_, rfl⟩
        obtain ⟨v, hv⟩ : ∃ v, v = V.getD i false := ⟨_, rfl⟩
        rw [← hu] at hc
        rw [← hv] at hd
        have HUU := Lib.hid hu
        have HVV := Lib.hid hv
        clear hu hv
        cases u with
        | true =>
          have HNO : Hid (¬ fits p U V n a) := Lib.hid (fun h => by have := (h.2 (i - a) (by omega)).1; rw [show a + (i - a) = i by omega, ← HUU.out] at this; cases this)
          go_wp2_with fail
          go_ret
          exact ⟨by rw [no.out HNO.out]; rfl, HBL.out⟩
        | false =>
          cases v with
          | true =>
            have HNO : Hid (¬ fits p U V n a) := Lib.hid (fun h => by have := (h.2 (i - a) (by omega)).2; rw [show a + (i - a) = i by omega, ← HVV.out] at this; cases this)
            go_wp2_with fail
            go_ret
            exact ⟨by rw [no.out HNO.out]; rfl, HBL.out⟩
          | false =>
            go_wp2_with fail
            go_round
            case rel =>
              refine ⟨i + 1, by omega, by omega, by go_num, Lib.hid (fun j h1 hj => ?_)⟩
              rcases Nat.lt_or_ge j i with h | h
              · exact hall.out j h1 h
              · obtain rfl : j = i := by omega
                exact ⟨by omega, HUU.out.symm, HVV.out.symm⟩
            case measure => simp [intOf]; omega
    · have e1 : decide ((i : Int) < (a : Int) + (n : Int)) = false := by simp; omega
      have e1' : decide (i < a + n) = false := by simp; omega
      have HYES : Hid (r = true ∨ ¬ fits p U V n a) := Lib.hid (by
        by_cases h : fits p U V n a
        · left; rw [HR.out]; exact decide_eq_true h
        · exact .inr h)
      have HK : Hid (i = a + n) := Lib.hid (by omega)
      go_wp2_with fail
      go_ret
      refine ⟨?_, HBL.out⟩
      rcases HYES.out with h | h
      · rw [h]; rfl
      · exfalso
        apply h
        have hall' := hall.out
        rw [HK.out] at hall'
        refine ⟨?_, fun j hj => (hall' (a + j) (by omega) (by omega)).2⟩
        have := (hall' (a + n - 1) (by omega) (by omega)).1
        omega

theorem fits_less {p : Nat} {U V : List Bool} {n m a : Nat} (h : fits p U V n a) (hm : m ≤ n) : fits p U V m a := ⟨by have := h.1; omega, fun j hj => h.2 j (by omega)⟩
/-- The run that ends at k, as it stands. -/
theorem runF_end (U V : List Bool) : ∀ k, (runF U V k).2 ≤ k ∧ (∀ j, k - (runF U V k).2 ≤ j → j < k → U.getD j false = false ∧ V.getD j false = false) ∧ (∀ b, b < k - (runF U V k).2 → ∃ j, b ≤ j ∧ j < k ∧ (U.getD j false = true ∨ V.getD j false = true))
  | 0 => ⟨Nat.le_refl _, fun j h1 h2 => by omega, fun b h => by simp [runF] at h⟩
  | k + 1 => by
    obtain ⟨h1, h2, h3⟩ := runF_end U V k
    have e : (runF U V (k + 1)).2 = if U.getD k false || V.getD k false then 0 else (runF U V k).2 + 1 := rfl
    by_cases hc : (U.getD k false || V.getD k false) = true
    · rw [if_pos hc] at e
      rw [e]
      refine ⟨by omega, fun j h4 h5 => by omega, fun b hb => ⟨k, by omega, by omega, ?_⟩⟩
      simpa using hc
    · rw [if_neg hc] at e
      rw [e]
      have hf : U.getD k false = false ∧ V.getD k false = false := by
        constructor
        · cases hu : U.getD k false
          · rfl
          · exact absurd (by rw [hu]; rfl) hc
        · cases hv : V.getD k false
          · rfl
          · exact absurd (by rw [hv, Bool.or_true]) hc
      refine ⟨by omega, fun j h4 h5 => ?_, fun b hb => ?_⟩
      · rcases Nat.lt_or_ge j k with h | h
        · exact h2 j (by omega) h
        · obtain rfl : j = k := by omega
          exact hf
      · obtain ⟨j, h6, h7, h8⟩ := h3 b (by omega)
        exact ⟨j, h6, by omega, h8⟩
/-- The longest run: there is one, and none longer. -/
theorem runF_max (U V : List Bool) : ∀ k, ((runF U V k).1 = 0 ∨ ∃ a, fits k U V (runF U V k).1 a) ∧ ∀ n a, fits k U V n a → n ≤ (runF U V k).1
  | 0 => ⟨.inl rfl, fun n a h => by have := h.1; omega⟩
  | k + 1 => by
    obtain ⟨ih1, ih2⟩ := runF_max U V k
    obtain ⟨h1, h2, h3⟩ := runF_end U V (k + 1)
    have e : (runF U V (k + 1)).1 = max (runF U V k).1 (runF U V (k + 1)).2 := rfl
    refine ⟨?_, fun n a h => ?_⟩
    · rw [e]
      rcases Nat.le_total (runF U V (k + 1)).2 (runF U V k).1 with hle | hle
      · rw [Nat.max_eq_left hle]
        rcases ih1 with h | ⟨a, h⟩
        · exact .inl h
        · exact .inr ⟨a, by have := h.1; omega, h.2⟩
      · rw [Nat.max_eq_right hle]
        exact .inr ⟨k + 1 - (runF U V (k + 1)).2, by omega, fun j hj => h2 _ (by omega) (by omega)⟩
    · rw [e]
      by_cases hend : a + n ≤ k
      · exact Nat.le_trans (ih2 n a ⟨hend, h.2⟩) (Nat.le_max_left _ _)
      · refine Nat.le_trans ?_ (Nat.le_max_right _ _)
        have hn := h.1
        rcases Nat.lt_or_ge a (k + 1 - (runF U V (k + 1)).2) with hl | hl
        · obtain ⟨j, h6, h7, h8⟩ := h3 a hl
          have h9 := h.2 (j - a) (by omega)
          rw [show a + (j - a) = j by omega] at h9
          rcases h8 with h8 | h8
          · rw [h9.1] at h8; cases h8
          · rw [h9.2] at h8; cases h8
        · omega
end Go.Proofs.Ytobfepkeikecoaa
