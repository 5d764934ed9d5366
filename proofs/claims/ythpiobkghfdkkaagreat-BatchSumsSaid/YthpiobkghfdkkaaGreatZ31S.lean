/-
  Texts that belong together: An expression's tree printed: not empty, not long, of numbers of 64 bits; what is told of a tree that stands for no expression. Plain facts. Package expr: the tree of an expression.
-/
import Derived.Test.YthpiobkghfdkkaaGreatZ29S
import Derived.Test.YthpiobkghfdkkaaGreatZ27S
import Derived.Test.YthpiobkghfdkkaaGreatZ24S
namespace Go.Proofs.YthpiobkghfdkkaaGreat
open Go.RowKit
set_option linter.unusedVariables false

end Go.Proofs.YthpiobkghfdkkaaGreat

namespace Go.Proofs.YthpiobkghfdkkaaGreat
open Go.RowKit
set_option linter.unusedVariables false

end Go.Proofs.YthpiobkghfdkkaaGreat
