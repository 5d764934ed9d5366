/-
  Texts that belong together: The law's own reading of a text: of. What is read from a short text is a small tree, all of whose parts are fair. What is evaluated keeps its Kind, or is refused; it hangs on the columns alone that are used; what is read of a text has short texts. Plain facts. The document's own expressions: kind, Type. The document's own expressions: num, truth, sums. The document's own expressions: eval, Eval. The fixed texts of the laws, read. The columns that the laws ask; what the fixed expressions are worth. Chapter 8's runs ('known'); Eval and Type of an expression that is known. Package expr: all parts of a tree; what is told of a tree that stands for no expression. The law's own function out: a tree of the document as the program's. Package expr: Read. Regions that load a struct out of its box, ask for the columns of t and call with both: the facts that they want.
-/
import Derived.Test.YthpiobkghfdkkaaGreatZ26O
import Derived.Test.YthpiobkghfdkkaaGreatZ23O
import Derived.BigQuiet
import Derived.Test.YthpiobkghfdkkaaGreatZ11O
import Derived.KernelRfl
import Derived.Test.YthpiobkghfdkkaaGreatZ12O
import Derived.Test.YthpiobkghfdkkaaGreatZ24O
import Derived.Test.YthpiobkghfdkkaaGreatZ8O
import Derived.Test.YthpiobkghfdkkaaGreatZ2O
import Derived.Deep.DeepCutAuto
import Derived.Test.YthpiobkghfdkkaaGreatZ20O
namespace Go.Proofs.YthpiobkghfdkkaaGreat
open Go.RowKit
set_option linter.unusedVariables false

end Go.Proofs.YthpiobkghfdkkaaGreat

namespace Go.Proofs.YthpiobkghfdkkaaGreat
open Go.RowKit
set_option linter.unusedVariables false

end Go.Proofs.YthpiobkghfdkkaaGreat

namespace Go.Proofs.YthpiobkghfdkkaaGreat
open Go.RowKit
set_option linter.unusedVariables false

end Go.Proofs.YthpiobkghfdkkaaGreat

namespace Go.Proofs.YthpiobkghfdkkaaGreat
open Go.RowKit
set_option linter.unusedVariables false

end Go.Proofs.YthpiobkghfdkkaaGreat

namespace Go.Proofs.YthpiobkghfdkkaaGreat
open Go.RowKit
set_option linter.unusedVariables false

end Go.Proofs.YthpiobkghfdkkaaGreat

namespace Go.Proofs.YthpiobkghfdkkaaGreat
open Go.RowKit
set_option linter.unusedVariables false

end Go.Proofs.YthpiobkghfdkkaaGreat

namespace Go.Proofs.YthpiobkghfdkkaaGreat
open Go.RowKit
set_option linter.unusedVariables false

end Go.Proofs.YthpiobkghfdkkaaGreat

namespace Go.Proofs.YthpiobkghfdkkaaGreat
open Go.RowKit
set_option linter.unusedVariables false

def ucols : List C := [(⟨#[97]⟩, 1), (⟨#[99]⟩, 1)]
theorem keep_u (w : World) : Calls Tryz.prog 25 #[] w fun e w' => e = .returned (.slice (some ⟨w.heap.size, 0, none⟩) 2 2) ∧ Cs w' (some ⟨w.heap.size, 0, none⟩) 2 2 ucols ∧ Ev w w' := by
  go_enter Tryz.func25, Tryz.ntmps25
  go_wp2
  go_ret
  exact ⟨rfl, Cs.made ucols 2 rfl (by decide) w _ rfl, Ev.alloc _ _⟩
end Go.Proofs.YthpiobkghfdkkaaGreat

namespace Go.Proofs.YthpiobkghfdkkaaGreat
open Go.RowKit
set_option linter.unusedVariables false

end Go.Proofs.YthpiobkghfdkkaaGreat

namespace Go.Proofs.YthpiobkghfdkkaaGreat
open Go.RowKit
set_option linter.unusedVariables false

end Go.Proofs.YthpiobkghfdkkaaGreat

namespace Go.Proofs.YthpiobkghfdkkaaGreat
open Go.RowKit
set_option linter.unusedVariables false

end Go.Proofs.YthpiobkghfdkkaaGreat

namespace Go.Proofs.YthpiobkghfdkkaaGreat
open Go.RowKit
set_option linter.unusedVariables false

end Go.Proofs.YthpiobkghfdkkaaGreat

namespace Go.Proofs.YthpiobkghfdkkaaGreat
open Go.RowKit
set_option linter.unusedVariables false

end Go.Proofs.YthpiobkghfdkkaaGreat
