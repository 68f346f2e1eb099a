/- The walk of RunsMany. -/
import Derived.Test.YtanljjpjhihgcaaDoorRunsPuts
import Derived.Test.YtanljjpjhihgcaaDoorPiTree
import Derived.Deep.DeepCutAuto
namespace Go.Proofs.YtanljjpjhihgcaaDoor
open Go.RowKit VarM RunM
set_option linter.unusedVariables false

theorem count200 (a : Int) : ∃ k : Nat, 1 ≤ k ∧ k ≤ 200 ∧ wrap64 (1 + wrap64 ((IntKind.u64.wrap a).tmod 200)) = (k : Int) := by
  have h0 : 0 ≤ IntKind.u64.wrap a := by rw [IntKind.wrap_u64]; omega
  rw [Int.tmod_eq_emod_of_nonneg h0]
  have h2 : 0 ≤ IntKind.u64.wrap a % 200 := Int.emod_nonneg _ (by omega)
  have h3 : IntKind.u64.wrap a % 200 < 200 := Int.emod_lt_of_pos _ (by omega)
  rw [IntWalk.wrap64_in (IntKind.u64.wrap a % 200) ⟨by omega, by omega⟩, IntWalk.wrap64_in _ ⟨by omega, by omega⟩]
  exact ⟨(1 + IntKind.u64.wrap a % 200).toNat, by omega, by omega, by omega⟩

theorem zeros_nats (k : Nat) : (madeCells (Value.int .u64 0).cells (k * 1)).toList = (List.replicate k 0).map uv := by
  have e : madeCells (Value.int .u64 0).cells (k * 1) = Array.replicate k (.int .u64 0) := by
    apply Array.ext
    · simp [madeCells]
    · intro i h1 h2
      simp [madeCells, Value.cells, Nat.mod_one]
  rw [e]
  simp [uv]

theorem own_made {w : World} {base k : Nat} {v : Value} (h : w.ownsRow base 22 1 v k (madeCells (Value.int .u64 0).cells (k * 1)).toList) : OwnN w base v (List.replicate k 0) := by
  rw [zeros_nats] at h
  unfold OwnN OwnV
  rw [List.length_map, List.length_replicate]
  exact h

/-- The first i of k places hold what f tells, the others 0. -/
def part (f : Nat → Nat) (k i : Nat) : List Nat := (List.range k).map fun j => if j < i then f j else 0
theorem part_len (f : Nat → Nat) (k i : Nat) : (part f k i).length = k := by simp [part]
theorem part_zero (f : Nat → Nat) (k : Nat) : part f k 0 = List.replicate k 0 := by
  apply List.ext_getElem <;> simp [part]
theorem part_set (f : Nat → Nat) (k i : Nat) (hi : i < k) : ((part f k i).map uv).set i (uv (f i)) = (part f k (i + 1)).map uv := by
  apply List.ext_getElem
  · simp [part]
  · intro j h1 h2
    have hj : j < k := by simpa [part] using h2
    rw [List.getElem_set]
    simp only [part, List.getElem_map, List.getElem_range]
    by_cases h : i = j
    · subst h; simp
    · rw [if_neg h]
      by_cases h3 : j < i
      · rw [if_pos h3, if_pos (by omega)]
      · rw [if_neg h3, if_neg (by omega)]
theorem part_all (f : Nat → Nat) (k : Nat) : part f k k = (List.range k).map f := by
  apply List.ext_getElem
  · simp [part]
  · intro j h1 h2
    have hj : j < k := by simpa [part] using h1
    simp [part, hj]

theorem xor_turn (v m : Nat) (hv : v < 18446744073709551616) : bits BinOp.xor IntKind.u64 (v : Int) ((m : Int) % 2) = ((v ^^^ (m % 2) : Nat) : Int) := by
  have : ((m : Int) % 2) = ((m % 2 : Nat) : Int) := by omega
  rw [this]
  exact u64_xor_nat _ _ hv (by omega)
theorem xor_turn_lt (v m : Nat) (hv : v < 18446744073709551616) : v ^^^ (m % 2) < 18446744073709551616 := Nat.xor_lt_two_pow (n := 64) (by omega) (by omega)
theorem xor_turn_ne (v i : Nat) : v ^^^ ((i + 1) % 2) ≠ v ^^^ (i % 2) := by
  intro h
  have h2 := congrArg (fun x => v ^^^ x) h
  simp only [← Nat.xor_assoc, Nat.xor_self, Nat.zero_xor] at h2
  omega

end Go.Proofs.YtanljjpjhihgcaaDoor
