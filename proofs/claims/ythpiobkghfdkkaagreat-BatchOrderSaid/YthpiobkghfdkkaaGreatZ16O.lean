/-
  Texts that belong together: The document's own Digits, Quote and Show (chapter 4).
-/
import Derived.BigQuiet
import Derived.Deep.QuietTactic
import Derived.Lib.ItoaLen
import Derived.Test.YthpiobkghfdkkaaGreatZ8O
import Derived.Test.YthpiobkghfdkkaaGreatZ9O
namespace Go.Proofs.YthpiobkghfdkkaaGreat
open Go.RowKit
set_option linter.unusedVariables false

end Go.Proofs.YthpiobkghfdkkaaGreat
