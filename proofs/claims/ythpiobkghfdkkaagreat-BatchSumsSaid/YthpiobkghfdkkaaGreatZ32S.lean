/-
  Texts that belong together: Package sexp: Print of what is no tree; Print of whatever was read.
-/
import Derived.Test.YthpiobkghfdkkaaGreatZ29S
import Derived.Test.YthpiobkghfdkkaaGreatZ25S
namespace Go.Proofs.YthpiobkghfdkkaaGreat
open Go.RowKit
set_option linter.unusedVariables false

end Go.Proofs.YthpiobkghfdkkaaGreat
