/- The reference's Put of layer 6: its contract. -/
import Derived.Test.YtanljjpjhihgcaaDoorPkRaw
import Derived.Test.YtanljjpjhihgcaaDoorPi
namespace BitM
theorem lenB_shr (d u : Nat) (h : u < lenB d) : 0 < d / 2 ^ u := by
  have h0 : d ≠ 0 := by
    intro h0
    subst h0
    simp [lenB] at h
  refine Nat.div_pos ?_ (Nat.pow_pos (by omega))
  exact Nat.le_trans (Nat.pow_le_pow_right (by omega) (by omega)) (lenB_ge d h0)
theorem lenB_shr0 (d : Nat) : d / 2 ^ lenB d = 0 := Nat.div_eq_of_lt (lenB_lt d)
theorem pk_parts {l : List Nat} (hne : l ≠ []) (h64 : wid l ≤ 64) : pk l = (beN (lmin l) 8 ++ [UInt8.ofNat (wid l)]) ++ bytesW (tot (pks l)).1 (tot (pks l)).2 := by
  have e : beN (wid l) 1 = [UInt8.ofNat (wid l)] := by simp [beN]
  unfold pk
  rw [if_neg hne, e]
theorem lmin_take1 (l : List Nat) (k : Nat) (h : k < l.length) : lmin (l.take (max (k + 1) 1)) = min (lmin (l.take (max k 1))) l[k] := by
  rcases Nat.eq_zero_or_pos k with rfl | h0
  · cases l with
    | nil => simp at h
    | cons x r => simp [lmin]
  · rw [show max (k + 1) 1 = k + 1 by omega, show max k 1 = k by omega]
    exact lmin_take l k h0 h
theorem lmax_take1 (l : List Nat) (k : Nat) (h : k < l.length) : lmax (l.take (max (k + 1) 1)) = max (lmax (l.take (max k 1))) l[k] := by
  rcases Nat.eq_zero_or_pos k with rfl | h0
  · cases l with
    | nil => simp at h
    | cons x r => simp [lmax]
  · rw [show max (k + 1) 1 = k + 1 by omega, show max k 1 = k by omega]
    exact lmax_take l k h0 h
end BitM
namespace Go.Proofs.YtanljjpjhihgcaaDoor
open Go.RowKit BitM
set_option linter.unusedVariables false

end Go.Proofs.YtanljjpjhihgcaaDoor
