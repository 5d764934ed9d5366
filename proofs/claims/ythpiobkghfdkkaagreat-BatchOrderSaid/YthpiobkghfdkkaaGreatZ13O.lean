/-
  Texts that belong together: Package sexp: numbers.
-/
import Derived.Test.YthpiobkghfdkkaaGreatShelf
import Derived.Lib.ConvBytes
import Derived.Lib.AtoiErrMem
import Derived.Test.YthpiobkghfdkkaaGreatZ8O
namespace Go.Proofs.YthpiobkghfdkkaaGreat
open Go.RowKit
set_option linter.unusedVariables false

end Go.Proofs.YthpiobkghfdkkaaGreat
