/- The known text's sum, as the statements of layer 2 ask it: its contract. -/
import Derived.Test.YtehmkegbmbkkbaaRefSum
import Derived.Lib.SlBytesConst
namespace Go.Proofs.Ytehmkegbmbkkbaa
open Go.RowKit CrcM

def digits : List UInt8 := [49, 50, 51, 52, 53, 54, 55, 56, 57]
theorem digits_sum : sumN digits = 3808858755 := by decide +kernel

theorem bytesAt_block {w : World} {g : Nat} {t : TypeId} {fr : Nat × Nat} (xs : List UInt8) (h : w.heap[g]? = some (.cells (xs.map fun c => Value.int .u8 (c.toNat : Int)).toArray t fr)) : BytesAt w (some ⟨g, 0, none⟩) xs := fun _ =>
  ⟨g, 0, rfl, fun k hk => by rw [cell_of_row w g (0 + k) _ t fr h]; simp [hk]⟩

end Go.Proofs.Ytehmkegbmbkkbaa
