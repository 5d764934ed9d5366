/-
  Texts that belong together: An expression's tree printed: not empty, not long, of numbers of 64 bits; what is told of a tree that stands for no expression. Plain facts. Package expr: the tree of an expression.
-/
import Derived.Test.YthpiobkghfdkkaaGreatZ29O
import Derived.Test.YthpiobkghfdkkaaGreatZ27O
import Derived.Test.YthpiobkghfdkkaaGreatZ24O
namespace Go.Proofs.YthpiobkghfdkkaaGreat
open Go.RowKit
set_option linter.unusedVariables false

end Go.Proofs.YthpiobkghfdkkaaGreat

namespace Go.Proofs.YthpiobkghfdkkaaGreat
open Go.RowKit
set_option linter.unusedVariables false

end Go.Proofs.YthpiobkghfdkkaaGreat
