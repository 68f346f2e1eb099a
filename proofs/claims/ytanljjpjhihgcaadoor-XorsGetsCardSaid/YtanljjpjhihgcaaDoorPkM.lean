/- What pack lays: mathematics over puts. No program is named here. -/
import Derived.Test.YtanljjpjhihgcaaDoorBitRow
import Derived.Test.YtanljjpjhihgcaaDoorPkLen
namespace BitM
open Go.Proofs.YtanljjpjhihgcaaDoor (wi)

/-- The least and the greatest of numbers. -/
def lmin : List Nat → Nat
  | [] => 0
  | x :: r => r.foldl min x
def lmax : List Nat → Nat
  | [] => 0
  | x :: r => r.foldl max x
theorem foldl_min_le : ∀ (r : List Nat) (x : Nat), r.foldl min x ≤ x ∧ ∀ y ∈ r, r.foldl min x ≤ y
  | [], x => by simp
  | a :: r, x => by
    obtain ⟨h1, h2⟩ := foldl_min_le r (min x a)
    simp only [List.foldl_cons]
    refine ⟨by omega, fun y hy => ?_⟩
    rcases List.mem_cons.1 hy with rfl | hy
    · omega
    · exact h2 y hy
theorem foldl_max_ge : ∀ (r : List Nat) (x : Nat), x ≤ r.foldl max x ∧ ∀ y ∈ r, y ≤ r.foldl max x
  | [], x => by simp
  | a :: r, x => by
    obtain ⟨h1, h2⟩ := foldl_max_ge r (max x a)
    simp only [List.foldl_cons]
    refine ⟨by omega, fun y hy => ?_⟩
    rcases List.mem_cons.1 hy with rfl | hy
    · omega
    · exact h2 y hy
theorem lmin_le {l : List Nat} {y : Nat} (hy : y ∈ l) : lmin l ≤ y := by
  cases l with
  | nil => cases hy
  | cons x r =>
    rcases List.mem_cons.1 hy with rfl | hy
    · exact (foldl_min_le r y).1
    · exact (foldl_min_le r x).2 y hy
theorem le_lmax {l : List Nat} {y : Nat} (hy : y ∈ l) : y ≤ lmax l := by
  cases l with
  | nil => cases hy
  | cons x r =>
    rcases List.mem_cons.1 hy with rfl | hy
    · exact (foldl_max_ge r y).1
    · exact (foldl_max_ge r x).2 y hy
theorem lmin_take (l : List Nat) (k : Nat) (h0 : 0 < k) (h : k < l.length) : lmin (l.take (k + 1)) = min (lmin (l.take k)) l[k] := by
  cases l with
  | nil => simp at h
  | cons x r =>
    obtain ⟨j, rfl⟩ : ∃ j, k = j + 1 := ⟨k - 1, by omega⟩
    have hj : j < r.length := by simpa using h
    simp only [List.take_succ_cons, lmin, List.getElem_cons_succ]
    rw [List.take_succ_eq_append_getElem hj, List.foldl_append]
    rfl
theorem lmax_take (l : List Nat) (k : Nat) (h0 : 0 < k) (h : k < l.length) : lmax (l.take (k + 1)) = max (lmax (l.take k)) l[k] := by
  cases l with
  | nil => simp at h
  | cons x r =>
    obtain ⟨j, rfl⟩ : ∃ j, k = j + 1 := ⟨k - 1, by omega⟩
    have hj : j < r.length := by simpa using h
    simp only [List.take_succ_cons, lmax, List.getElem_cons_succ]
    rw [List.take_succ_eq_append_getElem hj, List.foldl_append]
    rfl
/-- How many bits each difference with the least one has. -/
def wid (l : List Nat) : Nat := lenB (lmax l - lmin l)
/-- What a Writer is told of numbers. -/
def pks (l : List Nat) : List (Nat × Int) := l.map fun n => (n - lmin l, (wid l : Int))
/-- The bytes of numbers. -/
def pk (l : List Nat) : List UInt8 :=
  if l = [] then [] else beN (lmin l) 8 ++ beN (wid l) 1 ++ bytesW (tot (pks l)).1 (tot (pks l)).2
theorem tot_lt (ps : List (Nat × Int)) : ∀ k, k ≤ ps.length → (tot (ps.take k)).2 < 2 ^ (tot (ps.take k)).1
  | 0, _ => by simp [tot]
  | k + 1, h => by
    have h1 := tot_lt ps k (by omega)
    rw [tot_succ ps k (by omega)]
    simp only
    rw [Nat.pow_add]
    have h2 := Nat.mod_lt ps[k].1 (show 0 < 2 ^ wi ps[k].2 from Nat.pow_pos (by omega))
    have h3 : ((tot (ps.take k)).2 + 1) * 2 ^ wi ps[k].2 ≤ 2 ^ (tot (ps.take k)).1 * 2 ^ wi ps[k].2 := Nat.mul_le_mul_right _ h1
    rw [Nat.add_mul] at h3
    omega
/-- A head of whole bytes in front of bits. -/
theorem bytesW_head (h a L V : Nat) (hV : V < 2 ^ L) : bytesW (8 * h + L) (a * 2 ^ L + V) = beN a h ++ bytesW L V := by
  unfold bytesW
  have e1 : (8 * h + L + 7) / 8 = h + (L + 7) / 8 := by omega
  have e2 : 8 * (h + (L + 7) / 8) - (8 * h + L) = 8 * ((L + 7) / 8) - L := by omega
  rw [e1, e2, Nat.add_mul, Nat.mul_assoc, ← Nat.pow_add, show L + (8 * ((L + 7) / 8) - L) = 8 * ((L + 7) / 8) by omega, Nat.pow_mul, show (2 : Nat) ^ 8 = 256 from rfl]
  refine beN_cat _ _ _ _ ?_
  rw [show (256 : Nat) = 2 ^ 8 from rfl, ← Nat.pow_mul, show 8 * ((L + 7) / 8) = L + (8 * ((L + 7) / 8) - L) by omega, Nat.pow_add, Nat.add_sub_cancel_left]
  exact Nat.mul_lt_mul_of_pos_right hV (Nat.pow_pos (by omega))
end BitM
