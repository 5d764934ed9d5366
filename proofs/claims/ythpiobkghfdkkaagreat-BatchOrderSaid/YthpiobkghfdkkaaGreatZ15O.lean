/-
  Texts that belong together: Package sexp: a number's beginning, escapes.
-/
import Derived.Laws.Bits64b
import Derived.Lib.Bytealg
import Derived.Test.YthpiobkghfdkkaaGreatZ13O
namespace Go.Proofs.YthpiobkghfdkkaaGreat
open Go.RowKit
set_option linter.unusedVariables false

end Go.Proofs.YthpiobkghfdkkaaGreat
