/-
  Texts that belong together: The contracts of value.Show: a Builder that a call has made itself, quotes, digits. strings.Builder.WriteString.
-/
import Derived.Test.YthpiobkghfdkkaaGreatProg
import Derived.Test.YthpiobkghfdkkaaGreatShelf
import Derived.BigQuiet
import Derived.Lib.Builder
import Derived.Lib.AtoiErrMem
import Derived.WalkSmall
import Derived.Test.YthpiobkghfdkkaaGreatZ5O
import Derived.Test.YthpiobkghfdkkaaGreatZ7O
namespace Go.Proofs.YthpiobkghfdkkaaGreat
open Go.RowKit
set_option linter.unusedVariables false

end Go.Proofs.YthpiobkghfdkkaaGreat

namespace Go.Proofs.YthpiobkghfdkkaaGreat
open Go.RowKit
set_option linter.unusedVariables false

end Go.Proofs.YthpiobkghfdkkaaGreat
