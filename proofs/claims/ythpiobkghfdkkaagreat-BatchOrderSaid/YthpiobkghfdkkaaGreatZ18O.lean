/-
  Texts that belong together: Package sexp: put.
-/
import Derived.Deep.RegionLaw
import Derived.Test.YthpiobkghfdkkaaGreatZ17O
namespace Go.Proofs.YthpiobkghfdkkaaGreat
open Go.RowKit
set_option linter.unusedVariables false

end Go.Proofs.YthpiobkghfdkkaaGreat
