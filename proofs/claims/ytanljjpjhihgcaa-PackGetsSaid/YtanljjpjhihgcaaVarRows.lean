/- The walk of VarintRows. -/
import Derived.Test.YtanljjpjhihgcaaVarLaws
import Derived.Test.YtanljjpjhihgcaaRowKit
namespace Go.Proofs.Ytanljjpjhihgcaa
open Go.RowKit VarM
set_option linter.unusedVariables false

/-- Numbers side by side. -/
def vall (l : List Nat) : List UInt8 := l.flatMap vput
theorem vall_snoc (l : List Nat) (n : Nat) : vall (l ++ [n]) = vall l ++ vput n := by simp [vall]
theorem vall_len (l : List Nat) (h : ∀ n ∈ l, n < 18446744073709551616) : (vall l).length ≤ 10 * l.length := by
  induction l with
  | nil => simp [vall]
  | cons a l ih =>
    have h1 := ih (fun n hn => h n (by simp [hn]))
    have h2 := vput_len10 (h a (by simp))
    simp only [vall, List.flatMap_cons, List.length_append, List.length_cons] at *
    omega

/-- The first m of the numbers that came in. -/
def natsOf (zs : List Int) (m : Nat) : List Nat := (zs.take m).map Int.toNat
theorem natsOf_succ (zs : List Int) (m : Nat) (h : m < zs.length) : natsOf zs (m + 1) = natsOf zs m ++ [zs[m].toNat] := by
  unfold natsOf
  rw [List.take_succ_eq_append_getElem h, List.map_append]
  rfl

end Go.Proofs.Ytanljjpjhihgcaa
