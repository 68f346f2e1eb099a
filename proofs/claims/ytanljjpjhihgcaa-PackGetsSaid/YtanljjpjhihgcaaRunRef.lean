/- The reference's Put of layer 9: its contract. -/
import Derived.Test.YtanljjpjhihgcaaRunPut
import Derived.IntWalk
namespace Go.Proofs.Ytanljjpjhihgcaa
open Go.RowKit VarM RunM
set_option linter.unusedVariables false

end Go.Proofs.Ytanljjpjhihgcaa
