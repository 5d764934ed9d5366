/-
  Texts that belong together: The document's own Print. An expression's tree, in plain words: read again it is the expression; printed it is what was read. Package sexp: Print. Package sexp: write of a tree. Package sexp: Print of a tree whose parts are few enough.
-/
import Derived.Test.YthpiobkghfdkkaaGreatZ20O
import Derived.Test.YthpiobkghfdkkaaGreatZ23O
import Derived.Test.YthpiobkghfdkkaaGreatZ16O
import Derived.Test.YthpiobkghfdkkaaGreatZ9O
namespace Go.Proofs.YthpiobkghfdkkaaGreat
open Go.RowKit
set_option linter.unusedVariables false

end Go.Proofs.YthpiobkghfdkkaaGreat

namespace Go.Proofs.YthpiobkghfdkkaaGreat
open Go.RowKit
set_option linter.unusedVariables false

end Go.Proofs.YthpiobkghfdkkaaGreat

namespace Go.Proofs.YthpiobkghfdkkaaGreat
open Go.RowKit
set_option linter.unusedVariables false

end Go.Proofs.YthpiobkghfdkkaaGreat

namespace Go.Proofs.YthpiobkghfdkkaaGreat
open Go.RowKit
set_option linter.unusedVariables false

end Go.Proofs.YthpiobkghfdkkaaGreat

namespace Go.Proofs.YthpiobkghfdkkaaGreat
open Go.RowKit
set_option linter.unusedVariables false

end Go.Proofs.YthpiobkghfdkkaaGreat
