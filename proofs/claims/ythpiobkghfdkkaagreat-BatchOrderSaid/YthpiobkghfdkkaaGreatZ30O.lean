/-
  Texts that belong together: What is printed of a tree is read as that tree (but for places), or is too long, or too deep. Plain facts.
-/
import Derived.Lib.ItoaNum
import Derived.Test.YthpiobkghfdkkaaGreatZ29O
import Derived.Test.YthpiobkghfdkkaaGreatZ20O
namespace Go.Proofs.YthpiobkghfdkkaaGreat
open Go.RowKit
set_option linter.unusedVariables false

end Go.Proofs.YthpiobkghfdkkaaGreat
