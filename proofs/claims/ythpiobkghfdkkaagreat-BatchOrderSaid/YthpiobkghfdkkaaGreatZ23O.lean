/-
  Texts that belong together: The walk of SexpDeep. The document's own Read.
-/
import Derived.Deep.DeepCutAuto
import Derived.Test.YthpiobkghfdkkaaGreatZ20O
namespace Go.Proofs.YthpiobkghfdkkaaGreat
open Go.RowKit
set_option linter.unusedVariables false

end Go.Proofs.YthpiobkghfdkkaaGreat

namespace Go.Proofs.YthpiobkghfdkkaaGreat
open Go.RowKit
set_option linter.unusedVariables false

end Go.Proofs.YthpiobkghfdkkaaGreat
