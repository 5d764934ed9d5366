/-
  Texts that belong together: Package expr: Uses: the names of the columns in an expression: sorted, each once.
-/
import Derived.Test.YthpiobkghfdkkaaGreatShelf
import Derived.Sort.OwnSorted
import Derived.Lib.SlicesCompact
import Derived.Test.YthpiobkghfdkkaaGreatZ24O
namespace Go.Proofs.YthpiobkghfdkkaaGreat
open Go.RowKit
set_option linter.unusedVariables false

def sc (x : By) : List Value := [.string ⟨x.toArray⟩]
end Go.Proofs.YthpiobkghfdkkaaGreat
