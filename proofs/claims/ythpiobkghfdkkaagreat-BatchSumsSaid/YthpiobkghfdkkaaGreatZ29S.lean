/-
  Texts that belong together: The document's own Print. An expression's tree, in plain words: read again it is the expression; printed it is what was read. Package sexp: Print. Package sexp: write of a tree. Package sexp: Print of a tree whose parts are few enough.
-/
import Derived.Test.YthpiobkghfdkkaaGreatZ20S
import Derived.Test.YthpiobkghfdkkaaGreatZ23S
import Derived.Test.YthpiobkghfdkkaaGreatZ16S
import Derived.Test.YthpiobkghfdkkaaGreatZ9S
namespace Go.Proofs.YthpiobkghfdkkaaGreat
open Go.RowKit
set_option linter.unusedVariables false

end Go.Proofs.YthpiobkghfdkkaaGreat

namespace Go.Proofs.YthpiobkghfdkkaaGreat
open Go.RowKit
set_option linter.unusedVariables false

end Go.Proofs.YthpiobkghfdkkaaGreat

namespace Go.Proofs.YthpiobkghfdkkaaGreat
open Go.RowKit
set_option linter.unusedVariables false

end Go.Proofs.YthpiobkghfdkkaaGreat

namespace Go.Proofs.YthpiobkghfdkkaaGreat
open Go.RowKit
set_option linter.unusedVariables false

end Go.Proofs.YthpiobkghfdkkaaGreat

namespace Go.Proofs.YthpiobkghfdkkaaGreat
open Go.RowKit
set_option linter.unusedVariables false

end Go.Proofs.YthpiobkghfdkkaaGreat
