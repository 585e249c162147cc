/- Contracts of shifts of layer 1. -/
import Derived.Test.YtjjiendgmnlokaaDoorKdWt
namespace Go.Proofs.YtjjiendgmnlokaaDoor
open Go.RowKit
set_option linter.unusedVariables false

end Go.Proofs.YtjjiendgmnlokaaDoor
