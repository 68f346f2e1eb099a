/- BitmapTurns: what is taken and given back, as plain mathematics. No program is named here. -/
import Derived.Test.YtobfepkeikecoaaBmM
namespace Go.Proofs.Ytobfepkeikecoaa
set_option linter.unusedVariables false

def map0 : List Bool := markN (List.replicate 512 false) 0 true 2
theorem length_map0 : map0.length = 512 := by unfold map0; rw [length_markN]; exact List.length_replicate
theorem get_map0 (j : Nat) : map0.getD j false = decide (j < 2) := by
  unfold map0
  rw [getD_markN _ _ _ _ _ (by rw [List.length_replicate]; omega)]
  by_cases h : j < 2
  · rw [if_pos (by omega), decide_eq_true h]
  · rw [if_neg (by omega), decide_eq_false h, List.getD_eq_getElem?_getD, List.getElem?_replicate]
    split <;> rfl

/-- A map of k pages in which, beside the first two, just these are in use. -/
structure BtInv (k : Nat) (U : List Bool) (had : List Nat) : Prop where
  len : U.length = 512
  nod : had.Nodup
  rng : ∀ a ∈ had, 2 ≤ a ∧ a < k
  bit : ∀ j, U.getD j false = (decide (j < 2) || decide (j ∈ had))

theorem BtInv.init (k : Nat) : BtInv k map0 [] := ⟨length_map0, List.nodup_nil, (fun a h => by cases h), fun j => by rw [get_map0]; simp⟩
theorem ok_of {k : Nat} {U : List Bool} (hk : 8 ≤ k) (hk2 : k ≤ 512) (h1 : ∀ j, j < 2 → U.getD j false = true) (h2 : ∀ j, k ≤ j → U.getD j false = false) : okM (k : Int) U := by
  refine ⟨by omega, by omega, fun j hj => ?_⟩
  unfold okAt
  by_cases ha : j < 2
  · rw [h1 j ha]; simp; omega
  · by_cases hb : k ≤ j
    · rw [h2 j hb]; simp; omega
    · have e1 : decide (j < 2) = false := by simpa using ha
      have e2 : decide ((k : Int) ≤ (j : Int)) = false := by simp; omega
      rw [e1, e2]; rfl
theorem BtInv.ok {k : Nat} {U : List Bool} {had : List Nat} (h : BtInv k U had) (hk : 8 ≤ k) (hk2 : k ≤ 512) : okM (k : Int) U :=
  ok_of hk hk2 (fun j hj => by rw [h.bit, decide_eq_true hj]; rfl) (fun j hj => by
    rw [h.bit, decide_eq_false (by omega : ¬ j < 2), decide_eq_false (fun hm => by have := (h.rng j hm).2; omega)]; rfl)
theorem BtInv.fitsIff {k : Nat} {U : List Bool} {had : List Nat} (h : BtInv k U had) (a : Nat) : fits k U map0 1 a ↔ a < k ∧ U.getD a false = false := by
  unfold fits
  constructor
  · rintro ⟨h1, h2⟩
    exact ⟨by omega, (h2 0 (by omega)).1⟩
  · rintro ⟨h1, h2⟩
    refine ⟨by omega, fun j hj => ?_⟩
    obtain rfl : j = 0 := by omega
    refine ⟨h2, ?_⟩
    rw [Nat.add_zero, get_map0]
    rw [h.bit] at h2
    by_cases hj : a < 2
    · rw [decide_eq_true hj] at h2; cases h2
    · rw [decide_eq_false hj]
theorem BtInv.take {k : Nat} {U : List Bool} {had : List Nat} (h : BtInv k U had) (hk : k ≤ 512) {a : Nat} (ha : a < k) (hu : U.getD a false = false) : BtInv k (markN U a true 1) (had ++ [a]) := by
  have hb := h.bit a
  rw [hu] at hb
  have h2 : 2 ≤ a := by
    rcases Nat.lt_or_ge a 2 with h1 | h1
    · rw [decide_eq_true h1] at hb; cases hb
    · exact h1
  have hna : a ∉ had := fun hm => by rw [decide_eq_true hm, Bool.or_true] at hb; cases hb
  refine ⟨by rw [length_markN, h.len], ?_, ?_, ?_⟩
  · rw [List.nodup_append]
    refine ⟨h.nod, by simp, fun x hx y hy e => ?_⟩
    simp at hy
    subst hy e
    exact hna hx
  · intro x hx
    rcases List.mem_append.1 hx with hx | hx
    · exact h.rng x hx
    · simp at hx; omega
  · intro j
    rw [getD_markN _ _ _ _ _ (by rw [h.len]; omega), h.bit]
    by_cases hj : j = a
    · subst hj; rw [if_pos (by omega)]; simp
    · rw [if_neg (by omega)]; simp [hj]
theorem BtInv.give {k : Nat} {U : List Bool} {had : List Nat} (h : BtInv k U had) (hk : k ≤ 512) {i : Nat} (hi : i < had.length) : BtInv k (markN U (had[i]) false 1) (had.take i ++ had.drop (i + 1)) := by
  have hmem := h.rng _ (List.getElem_mem hi)
  have hsplit : had = had.take i ++ had[i] :: had.drop (i + 1) := by rw [← List.drop_eq_getElem_cons hi, List.take_append_drop]
  have hnd : (had.take i ++ had[i] :: had.drop (i + 1)).Nodup := hsplit ▸ h.nod
  have hperm : List.Perm (had.take i ++ had[i] :: had.drop (i + 1)) (had[i] :: (had.take i ++ had.drop (i + 1))) := List.perm_middle
  have hnd2 := hperm.nodup_iff.1 hnd
  rw [List.nodup_cons] at hnd2
  have hiff : ∀ j, j ∈ had ↔ j = had[i] ∨ j ∈ had.take i ++ had.drop (i + 1) := fun j => by
    have := hperm.mem_iff (a := j)
    rw [← hsplit] at this
    rw [this, List.mem_cons]
  refine ⟨by rw [length_markN, h.len], hnd2.2, fun a ha => h.rng a ((hiff a).2 (.inr ha)), fun j => ?_⟩
  rw [getD_markN _ _ _ _ _ (by rw [h.len]; omega), h.bit]
  by_cases hj : j = had[i]
  · rw [if_pos (by omega), decide_eq_false (by omega : ¬ j < 2), decide_eq_false (by rw [hj]; exact hnd2.1)]; rfl
  · rw [if_neg (by omega)]
    congr 1
    rw [decide_eq_decide, hiff j]
    simp [hj]

/-- How many of the first k pages aren't in use. -/
def freeN (U : List Bool) : Nat → Nat
  | 0 => 0
  | k + 1 => freeN U k + (if U.getD k false then 0 else 1)
def below (had : List Nat) (n : Nat) : Nat := (had.filter (fun a => decide (a < n))).length
theorem below_succ (n : Nat) : ∀ had : List Nat, had.Nodup → below had (n + 1) = below had n + (if n ∈ had then 1 else 0)
  | [], _ => by simp [below]
  | a :: l, h => by
    rw [List.nodup_cons] at h
    have ih := below_succ n l h.2
    unfold below at *
    by_cases h1 : a < n
    · have e1 : decide (a < n) = true := by simpa using h1
      have e2 : decide (a < n + 1) = true := by simp; omega
      have e3 : (n ∈ a :: l) ↔ n ∈ l := by simp; omega
      simp only [List.filter_cons, e1, e2, if_true, List.length_cons, ih, e3]
      omega
    · by_cases h2 : a = n
      · subst h2
        have e1 : decide (a < a) = false := by simp
        have e2 : decide (a < a + 1) = true := by simp
        simp only [List.filter_cons, e1, e2, if_true, List.length_cons, ih, if_neg h.1, if_pos (List.mem_cons_self ..), Bool.false_eq_true, if_false]
      · have e1 : ¬ decide (a < n) = true := by simpa using h1
        have e2 : ¬ decide (a < n + 1) = true := by simp; omega
        have e3 : (n ∈ a :: l) ↔ n ∈ l := by simp; omega
        simp only [List.filter_cons, e1, e2, Bool.false_eq_true, if_false, ih, e3]
theorem BtInv.freeEq {k : Nat} {U : List Bool} {had : List Nat} (h : BtInv k U had) : ∀ n, freeN U n + below had n + min 2 n = n
  | 0 => by simp [Proofs.Ytobfepkeikecoaa.freeN, below]
  | n + 1 => by
    have ih := BtInv.freeEq h n
    have hs := below_succ n had h.nod
    show (Proofs.Ytobfepkeikecoaa.freeN U n + (if U.getD n false then 0 else 1)) + below had (n + 1) + min 2 (n + 1) = n + 1
    rw [hs, h.bit]
    by_cases h1 : n < 2
    · have hn : n ∉ had := fun hm => by have := (h.rng n hm).1; omega
      rw [decide_eq_true h1, if_neg hn]
      simp
      omega
    · by_cases h2 : n ∈ had
      · rw [decide_eq_true h2, if_pos h2]; simp; omega
      · rw [decide_eq_false h1, decide_eq_false h2, if_neg h2]; simp; omega
theorem BtInv.free {k : Nat} {U : List Bool} {had : List Nat} (h : BtInv k U had) (hk : 8 ≤ k) : freeN U k = k - 2 - had.length ∧ had.length + 2 ≤ k := by
  have h1 := h.freeEq k
  have h2 : below had k = had.length := by
    unfold below
    rw [List.filter_eq_self.2 (fun a ha => by simpa using (h.rng a ha).2)]
  omega
end Go.Proofs.Ytobfepkeikecoaa
