/-
  Texts that belong together: Package sexp: hasEnd of a tree that has few parts.
-/
import Derived.Deep.LoopGhost
import Derived.Test.YthpiobkghfdkkaaGreatZ20O
namespace Go.Proofs.YthpiobkghfdkkaaGreat
open Go.RowKit
set_option linter.unusedVariables false

end Go.Proofs.YthpiobkghfdkkaaGreat
