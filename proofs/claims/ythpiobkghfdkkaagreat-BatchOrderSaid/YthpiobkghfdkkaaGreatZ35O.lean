/-
  Texts that belong together: Package plan: the tree of any plan, and its text. Chapter 9 in plain words: what Read makes is small enough to be written. Chapter 9 in plain words: what is read, printed and read again; a plan that is wrapped; sums over a plan's parts. The document (chapter 9): names, with the first that is none; a list in brackets. The document (chapter 9): a function of a group: what it is, or its first error. Package check: the column that a group reckons. Package check: what the forms give: the end of each; tables, filters, unions. Package check: unions. Package plan: Read. Package plan: Read of a tree. Package plan: Read, of any text. slices.Equal of lists that hold the same. slices.Equal of lists of aggregates that hold the same. Package plan: sameExpr of expressions that are the same. Package plan: sameExpr of expressions that are the same. Package plan: same, of plans that are the same. Package plan: same, of plans that are the same. Package plan: the plans of which a plan consists; Size. Package check: projects. Package check: groups. Package plan: isSmall, Print. Print of no plan.
-/
import Derived.Test.YthpiobkghfdkkaaGreatZ34O
import Derived.Test.YthpiobkghfdkkaaGreatZ32O
import Derived.Test.YthpiobkghfdkkaaGreatZ33O
import Derived.Test.YthpiobkghfdkkaaGreatZ31O
import Derived.Test.YthpiobkghfdkkaaGreatZ2O
import Derived.BigQuiet
namespace Go.Proofs.YthpiobkghfdkkaaGreat
open Go.RowKit
set_option linter.unusedVariables false

end Go.Proofs.YthpiobkghfdkkaaGreat

namespace Go.Proofs.YthpiobkghfdkkaaGreat
open Go.RowKit
set_option linter.unusedVariables false

end Go.Proofs.YthpiobkghfdkkaaGreat

namespace Go.Proofs.YthpiobkghfdkkaaGreat
open Go.RowKit
set_option linter.unusedVariables false

-- Sums over all parts of a plan.
-- How long what is printed is, at least.
-- What wraps a plan.
-- The texts of the closed runs.
end Go.Proofs.YthpiobkghfdkkaaGreat

namespace Go.Proofs.YthpiobkghfdkkaaGreat
open Go.RowKit
set_option linter.unusedVariables false

end Go.Proofs.YthpiobkghfdkkaaGreat

namespace Go.Proofs.YthpiobkghfdkkaaGreat
open Go.RowKit
set_option linter.unusedVariables false

end Go.Proofs.YthpiobkghfdkkaaGreat

namespace Go.Proofs.YthpiobkghfdkkaaGreat
open Go.RowKit
set_option linter.unusedVariables false

end Go.Proofs.YthpiobkghfdkkaaGreat

namespace Go.Proofs.YthpiobkghfdkkaaGreat
open Go.RowKit
set_option linter.unusedVariables false

-- Tables.
set_option maxRecDepth 100000 in
set_option maxHeartbeats 1600000 in
theorem clone_cols {A : Option Addr} {n cap : Nat} {l : List C} (w : World) (h : Cs w A n cap l) (hl : l.length ≤ 100000) (h0 : 0 < l.length) :
    Calls Tryz.prog 58 #[.slice A n cap] w fun e w' => ∃ v, e = .returned v ∧ Ow 89 2 ccells w.heap.size w' v l ∧ Ev w w' := by
  have q22 : ∀ (w : World) (a : Option Addr) (n c n' c' : Nat), (binOp .eql 43 (.slice a n c) (.slice none n' c')).run Tryz.prog w = .ok (.bool a.isNone) w := fun w a n c n' c' => Lib.run_eql_slice_nil w 43 89 a n c n' c' Tryz.underlying43
  have HL := Lib.hid h.len
  obtain ⟨b, off, rfl, _, _⟩ := h.rd (by rw [← h.len]; exact h0)
  have hE : Empty0 89 w.heap.size (.slice (some ⟨w.heap.size, 0, none⟩) 0 0) (w.alloc (.cells #[] 89)) := Empty0.new (Nat.le_refl _)
  go_enter Tryz.func58, Tryz.ntmps58
  go_wp2_with (at_builtin; refine wpList_append_ow0 (o := ⟨some 7, _, _, _, _, _⟩) rfl 43 (.tmp 5) (.tmp 6) rfl encC Tryz.underlying43 Tryz.infoCol rfl rfl hE (some ⟨b, off, none⟩) n cap l rfl (h.ev (Ev.alloc _ _)) (by omega) (by omega) (by simp) ?_; intro v1 w1 hO1 hE1)
  go_ret
  exact ⟨v1, rfl, hO1, (Ev.alloc _ _).trans hE1⟩

end Go.Proofs.YthpiobkghfdkkaaGreat

namespace Go.Proofs.YthpiobkghfdkkaaGreat
open Go.RowKit
set_option linter.unusedVariables false

end Go.Proofs.YthpiobkghfdkkaaGreat

namespace Go.Proofs.YthpiobkghfdkkaaGreat
open Go.RowKit
set_option linter.unusedVariables false

end Go.Proofs.YthpiobkghfdkkaaGreat

namespace Go.Proofs.YthpiobkghfdkkaaGreat
open Go.RowKit
set_option linter.unusedVariables false

end Go.Proofs.YthpiobkghfdkkaaGreat

namespace Go.Proofs.YthpiobkghfdkkaaGreat
open Go.RowKit
set_option linter.unusedVariables false

end Go.Proofs.YthpiobkghfdkkaaGreat

namespace Go.Proofs.YthpiobkghfdkkaaGreat
open Go.RowKit
set_option linter.unusedVariables false

end Go.Proofs.YthpiobkghfdkkaaGreat

namespace Go.Proofs.YthpiobkghfdkkaaGreat
open Go.RowKit
set_option linter.unusedVariables false

end Go.Proofs.YthpiobkghfdkkaaGreat

namespace Go.Proofs.YthpiobkghfdkkaaGreat
open Go.RowKit
set_option linter.unusedVariables false

def Yes (w : World) (e : Ending) (w' : World) : Prop := e = .returned (.bool true) ∧ Ev w w'

end Go.Proofs.YthpiobkghfdkkaaGreat

namespace Go.Proofs.YthpiobkghfdkkaaGreat
open Go.RowKit
set_option linter.unusedVariables false

end Go.Proofs.YthpiobkghfdkkaaGreat

namespace Go.Proofs.YthpiobkghfdkkaaGreat
open Go.RowKit
set_option linter.unusedVariables false

end Go.Proofs.YthpiobkghfdkkaaGreat

namespace Go.Proofs.YthpiobkghfdkkaaGreat
open Go.RowKit
set_option linter.unusedVariables false

end Go.Proofs.YthpiobkghfdkkaaGreat

namespace Go.Proofs.YthpiobkghfdkkaaGreat
open Go.RowKit
set_option linter.unusedVariables false

end Go.Proofs.YthpiobkghfdkkaaGreat

namespace Go.Proofs.YthpiobkghfdkkaaGreat
open Go.RowKit
set_option linter.unusedVariables false

end Go.Proofs.YthpiobkghfdkkaaGreat

namespace Go.Proofs.YthpiobkghfdkkaaGreat
open Go.RowKit
set_option linter.unusedVariables false

end Go.Proofs.YthpiobkghfdkkaaGreat

namespace Go.Proofs.YthpiobkghfdkkaaGreat
open Go.RowKit
set_option linter.unusedVariables false

end Go.Proofs.YthpiobkghfdkkaaGreat

namespace Go.Proofs.YthpiobkghfdkkaaGreat
open Go.RowKit
set_option linter.unusedVariables false

-- Print.
end Go.Proofs.YthpiobkghfdkkaaGreat
