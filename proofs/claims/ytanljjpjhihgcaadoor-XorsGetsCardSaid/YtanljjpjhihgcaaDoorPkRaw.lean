/- The reference's Raw: a number in eight bytes. -/
import Derived.Test.YtanljjpjhihgcaaDoorPkPut
namespace Go.Proofs.YtanljjpjhihgcaaDoor
open Go.RowKit BitM
set_option linter.unusedVariables false

end Go.Proofs.YtanljjpjhihgcaaDoor
