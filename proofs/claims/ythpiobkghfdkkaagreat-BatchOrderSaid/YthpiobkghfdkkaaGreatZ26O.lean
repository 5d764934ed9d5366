/-
  Texts that belong together: The document's own expressions: Read. The document's own expressions: Right.
-/
import Derived.BigRegion
import Derived.Test.YthpiobkghfdkkaaGreatZ24O
import Derived.Test.YthpiobkghfdkkaaGreatZ11O
namespace Go.Proofs.YthpiobkghfdkkaaGreat
open Go.RowKit
set_option linter.unusedVariables false

end Go.Proofs.YthpiobkghfdkkaaGreat

namespace Go.Proofs.YthpiobkghfdkkaaGreat
open Go.RowKit
set_option linter.unusedVariables false

end Go.Proofs.YthpiobkghfdkkaaGreat
