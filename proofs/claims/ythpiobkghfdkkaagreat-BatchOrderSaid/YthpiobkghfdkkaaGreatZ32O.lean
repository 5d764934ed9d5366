/-
  Texts that belong together: Package sexp: Print of what is no tree; Print of whatever was read.
-/
import Derived.Test.YthpiobkghfdkkaaGreatZ29O
import Derived.Test.YthpiobkghfdkkaaGreatZ25O
namespace Go.Proofs.YthpiobkghfdkkaaGreat
open Go.RowKit
set_option linter.unusedVariables false

end Go.Proofs.YthpiobkghfdkkaaGreat
