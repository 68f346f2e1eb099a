/- The reference's Put of layer 9: its contract. -/
import Derived.Test.YtanljjpjhihgcaaDoorRunPut
import Derived.IntWalk
namespace Go.Proofs.YtanljjpjhihgcaaDoor
open Go.RowKit VarM RunM
set_option linter.unusedVariables false

end Go.Proofs.YtanljjpjhihgcaaDoor
