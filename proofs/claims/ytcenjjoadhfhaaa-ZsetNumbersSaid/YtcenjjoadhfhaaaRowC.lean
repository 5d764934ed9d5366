/-
  The contract of row.Columns.
-/
import Derived.Test.YtcenjjoadhfhaaaRowL
namespace Go.Proofs.Ytcenjjoadhfhaaa
open Go.RowKit
set_option linter.unusedVariables false

end Go.Proofs.Ytcenjjoadhfhaaa
