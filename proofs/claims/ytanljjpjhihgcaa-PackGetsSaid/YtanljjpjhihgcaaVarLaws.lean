/- The statements' small test of layer 5, and the walks of VarintZigs, VarintLengths, VarintRows. -/
import Derived.Test.YtanljjpjhihgcaaVarPut
namespace Go.Proofs.Ytanljjpjhihgcaa
open Go.RowKit VarM
set_option linter.unusedVariables false

theorem bytesAt_block {w : World} {g : Nat} {t : TypeId} {fr : Nat × Nat} (xs : List UInt8) (h : w.heap[g]? = some (.cells (xs.map fun c => Value.int .u8 (c.toNat : Int)).toArray t fr)) : BytesAt w (some ⟨g, 0, none⟩) xs := fun _ =>
  ⟨g, 0, rfl, fun k hk => by rw [cell_of_row w g (0 + k) _ t fr h]; simp [hk]⟩

theorem text_n {w : World} (A : Option Addr) (n c : Nat) (xs : List UInt8) (hn : xs.length = n) (hA : BytesAt w A xs) :
    (convert 22 9 (.slice A n c)).run Try.prog w = .ok (.string ⟨xs.toArray⟩) w := by
  subst hn
  exact run_text (P := Try.prog) 22 9 Try.underlying22 Try.underlying5 Try.underlying9 A c hA

theorem vput300 : vput 300 = [172, 2] := by rw [vput_high (by omega), vput_low (by omega)]; rfl

/-- The count of bytes, as the statement counts. -/
theorem count7 (n j : Nat) : (vput (n / 128 ^ j)).length = if n / 128 ^ (j + 1) = 0 then 1 else 1 + (vput (n / 128 ^ (j + 1))).length := by
  have e : n / 128 ^ (j + 1) = n / 128 ^ j / 128 := by rw [Nat.pow_succ, Nat.div_div_eq_div_mul]
  rw [e]
  generalize n / 128 ^ j = y
  by_cases h : y < 128
  · rw [vput_low h, if_pos (by omega)]; rfl
  · rw [vput_high h, if_neg (by omega), List.length_cons]; omega

end Go.Proofs.Ytanljjpjhihgcaa
