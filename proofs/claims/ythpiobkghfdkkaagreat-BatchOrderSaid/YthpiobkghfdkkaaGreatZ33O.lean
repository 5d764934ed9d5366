/-
  Texts that belong together: What is read, by the program or by the document's own Read, is fine, not deep, small. Plain facts. Chapter 9 in plain words: plans, their trees, what a tree is read as. Package plan: what the parts of a plan's tree are: atoms, names, columns, aggregates. Package plan: has a tree the form of a plan? Chapter 9 in plain words: places matter for errors alone; a plan's tree is read as that plan; the tree of what was read is what was read. Chapter 9 in plain words: a tree that is read as a plan is that plan's tree, but for places. Chapter 9 in plain words: what Read makes of a tree: its tree is the same but for places, and it is good.
-/
import Derived.Test.YthpiobkghfdkkaaGreatZ30O
import Derived.Test.YthpiobkghfdkkaaGreatZ27O
import Derived.Test.YthpiobkghfdkkaaGreatZ31O
import Derived.BigQuiet
import Derived.Test.YthpiobkghfdkkaaGreatZ17O
import Derived.Test.YthpiobkghfdkkaaGreatZ29O
namespace Go.Proofs.YthpiobkghfdkkaaGreat
open Go.RowKit
set_option linter.unusedVariables false

end Go.Proofs.YthpiobkghfdkkaaGreat

namespace Go.Proofs.YthpiobkghfdkkaaGreat
open Go.RowKit
set_option linter.unusedVariables false

/-- The function of a group and what it asks. -/
abbrev Ag := By × By × By
inductive Pl where
  | mk (kind : Int) (name : By) (exprs : List T) (cols left right : List By) (aggs : List Ag) (kids : List Pl) : Pl
abbrev at_ (l : List T) (i : Nat) : T := l.getD i sxZero
end Go.Proofs.YthpiobkghfdkkaaGreat

namespace Go.Proofs.YthpiobkghfdkkaaGreat
open Go.RowKit
set_option linter.unusedVariables false

end Go.Proofs.YthpiobkghfdkkaaGreat

namespace Go.Proofs.YthpiobkghfdkkaaGreat
open Go.RowKit
set_option linter.unusedVariables false

end Go.Proofs.YthpiobkghfdkkaaGreat

namespace Go.Proofs.YthpiobkghfdkkaaGreat
open Go.RowKit
set_option linter.unusedVariables false

end Go.Proofs.YthpiobkghfdkkaaGreat

namespace Go.Proofs.YthpiobkghfdkkaaGreat
open Go.RowKit
set_option linter.unusedVariables false

end Go.Proofs.YthpiobkghfdkkaaGreat

namespace Go.Proofs.YthpiobkghfdkkaaGreat
open Go.RowKit
set_option linter.unusedVariables false

end Go.Proofs.YthpiobkghfdkkaaGreat
