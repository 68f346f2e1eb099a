/- Values and how often each comes, as lists: plain mathematics. -/
import Derived.Test.YtanljjpjhihgcaaDoorVarM
namespace RunM
open VarM

/-- How long the run is that a list begins with. -/
def runLen : List Nat → Nat
  | [] => 0
  | x :: l => ((x :: l).takeWhile fun y => y == x).length

theorem runLen_le (l : List Nat) : runLen l ≤ l.length := by
  cases l with
  | nil => simp [runLen]
  | cons x l => exact (List.takeWhile_prefix _).length_le
theorem runLen_pos (x : Nat) (l : List Nat) : 1 ≤ runLen (x :: l) := by
  show 1 ≤ ((x :: l).takeWhile fun y => y == x).length
  rw [List.takeWhile_cons_of_pos (by simp)]
  simp

theorem takeWhile_spec (p : Nat → Bool) : ∀ (l : List Nat) (i : Nat) (hi : i < l.length), (i < (l.takeWhile p).length → p l[i] = true) ∧ (i = (l.takeWhile p).length → p l[i] = false) := by
  intro l
  induction l with
  | nil => intro i hi; simp at hi
  | cons a l ih =>
    intro i hi
    by_cases h : p a = true
    · rw [List.takeWhile_cons_of_pos h]
      cases i with
      | zero => simp [h]
      | succ i => simpa using ih i (by simpa using hi)
    · rw [List.takeWhile_cons_of_neg h]
      constructor
      · intro h2; simp at h2
      · intro h2
        have : i = 0 := by simpa using h2
        subst this
        simpa using h

/-- Each of the run's is the first one; the one behind it is another one. -/
theorem runLen_same (x : Nat) (l : List Nat) (i : Nat) (hi : i < (x :: l).length) (h : i < runLen (x :: l)) : (x :: l)[i] = x := by
  have := (takeWhile_spec (fun y => y == x) (x :: l) i hi).1 h
  simpa using this
theorem runLen_next (x : Nat) (l : List Nat) (hi : runLen (x :: l) < (x :: l).length) : (x :: l)[runLen (x :: l)] ≠ x := by
  have := (takeWhile_spec (fun y => y == x) (x :: l) _ hi).2 rfl
  simpa using this

theorem take_run (x : Nat) (l : List Nat) : (x :: l).take (runLen (x :: l)) = List.replicate (runLen (x :: l)) x := by
  apply List.ext_getElem
  · have := runLen_le (x :: l)
    simp at this ⊢
    omega
  · intro i h1 h2
    have h3 : i < runLen (x :: l) := by simpa using h2
    have := runLen_le (x :: l)
    rw [List.getElem_take, runLen_same x l i (by omega) h3]
    simp

/-- Values as bytes. -/
def rput : List Nat → List UInt8
  | [] => []
  | x :: l => vput (runLen (x :: l)) ++ vput x ++ rput ((x :: l).drop (runLen (x :: l)))
termination_by l => l.length
decreasing_by
  have := runLen_pos x l
  simp
  omega

theorem rput_nil : rput [] = [] := by rw [rput]
theorem rput_cons (x : Nat) (l : List Nat) : rput (x :: l) = vput (runLen (x :: l)) ++ vput x ++ rput ((x :: l).drop (runLen (x :: l))) := by rw [rput]

theorem rput_len (k : Nat) : ∀ (l : List Nat), l.length ≤ k → (∀ n ∈ l, n < 18446744073709551616) → l.length < 18446744073709551616 → (rput l).length ≤ 20 * l.length := by
  induction k with
  | zero =>
    intro l h _ _
    have := List.eq_nil_of_length_eq_zero (Nat.le_zero.1 h)
    subst this
    simp [rput_nil]
  | succ k ih =>
    intro l h hn hl
    cases l with
    | nil => simp [rput_nil]
    | cons x l =>
      have h1 := runLen_pos x l
      have h2 := runLen_le (x :: l)
      rw [rput_cons]
      have h3 := ih ((x :: l).drop (runLen (x :: l))) (by simp at h ⊢; omega) (fun n hn2 => hn n (List.mem_of_mem_drop hn2)) (by simp at hl ⊢; omega)
      have h4 := vput_len10 (show runLen (x :: l) < 18446744073709551616 by omega)
      have h5 := vput_len10 (hn x (by simp))
      simp only [List.length_append, List.length_drop] at *
      omega

theorem rput_len_two (k : Nat) : ∀ (l : List Nat), l.length ≤ k → 1 ≤ l.length → 2 ≤ (rput l).length := by
  intro l _ h
  cases l with
  | nil => simp at h
  | cons x l =>
    rw [rput_cons]
    have := vput_len_pos (runLen (x :: l))
    have := vput_len_pos x
    simp only [List.length_append]
    omega

theorem runLen_replicate (k x : Nat) : runLen (List.replicate k x) = k := by
  cases k with
  | zero => rfl
  | succ k =>
    show ((List.replicate (k + 1) x).takeWhile fun y => y == x).length = k + 1
    rw [List.takeWhile_replicate]
    simp
theorem rput_replicate (k x : Nat) (hk : 1 ≤ k) : rput (List.replicate k x) = vput k ++ vput x := by
  obtain ⟨j, rfl⟩ : ∃ j, k = j + 1 := ⟨k - 1, by omega⟩
  have h1 := runLen_replicate (j + 1) x
  rw [List.replicate_succ] at *
  rw [rput_cons, h1, List.drop_of_length_le (by simp), rput_nil, List.append_nil]

/-- No value is the one ahead. -/
theorem rput_turns : ∀ (n : Nat) (l : List Nat), l.length = n → (∀ i (h : i + 1 < l.length), l[i + 1] ≠ l[i]) → 2 * l.length ≤ (rput l).length := by
  intro n
  induction n with
  | zero => intro l h _; rw [h]; simp
  | succ n ih =>
    intro l h hne
    cases l with
    | nil => simp
    | cons x l =>
      have h1 : runLen (x :: l) = 1 := by
        have h2 := runLen_pos x l
        rcases Nat.lt_or_ge 1 (runLen (x :: l)) with h3 | h3
        · have h4 := runLen_le (x :: l)
          have h5 := runLen_same x l 1 (by omega) h3
          exact absurd h5 (hne 0 (by omega))
        · omega
      rw [rput_cons, h1]
      have h6 := ih l (by simpa using h) (fun i hi => by have := hne (i + 1) (by simpa using hi); simpa using this)
      have h7 := vput_len_pos 1
      have h8 := vput_len_pos x
      simp only [List.drop_succ_cons, List.drop_zero, List.length_append, List.length_cons]
      omega
end RunM
