/-
  Texts that belong together: Package expr: what operations make of numbers and texts. Package expr: products; what an operation makes of two values. Package expr: what an operation makes of two values. Package expr: of how many operands an operation is; kinds of what it makes. The document's own count. Package expr: parts of an expression; is it right? Package expr: all parts of an expression; is it one that Read makes? Package expr: is an expression one that Read makes? Package expr: the kinds of what operations make. Package expr: the kind of an expression's value. Package expr: Type; what is evaluated is fair; choose. Package expr: evaluate, Eval. Package expr: Eval.
-/
import Derived.Laws.Bits64b
import Derived.Test.YthpiobkghfdkkaaGreatZ20O
import Derived.Test.YthpiobkghfdkkaaGreatZ12O
import Derived.Test.YthpiobkghfdkkaaGreatZ11O
import Derived.Test.YthpiobkghfdkkaaGreatZ2O
namespace Go.Proofs.YthpiobkghfdkkaaGreat
open Go.RowKit
set_option linter.unusedVariables false

theorem Bx.three {T : TypeId} {g : Nat} {w : World} {v0 v1 v2 : Value} (h : Bx T g #[v0, v1, v2] w) : (w.cell? ⟨g, 0, none⟩ = some v0 ∧ w.cell? ⟨g, 1, none⟩ = some v1 ∧ w.cell? ⟨g, 2, none⟩ = some v2) ∧
    (w.frozen? ⟨g, 0, none⟩ = false ∧ w.frozen? ⟨g, 1, none⟩ = false ∧ w.frozen? ⟨g, 2, none⟩ = false) :=
  ⟨⟨h.cell 0, h.cell 1, h.cell 2⟩, h.frozen 0, h.frozen 1, h.frozen 2⟩
def set3 (g : Nat) (v0 v1 v2 : Value) (w : World) : World := ((w.setCell ⟨g, 0, none⟩ v0).setCell ⟨g, 1, none⟩ v1).setCell ⟨g, 2, none⟩ v2
theorem set3_fold (g : Nat) (v0 v1 v2 : Value) (w : World) : ((w.setCell ⟨g, 0, none⟩ v0).setCell ⟨g, 1, none⟩ v1).setCell ⟨g, 2, none⟩ v2 = set3 g v0 v1 v2 w := rfl
theorem set3_but (g : Nat) (v0 v1 v2 : Value) (w : World) : But [g] w (set3 g v0 v1 v2 w) :=
  ((But.setCell ⟨g, 0, none⟩ _ (by simp)).then (But.setCell ⟨g, 1, none⟩ _ (by simp))).then (But.setCell ⟨g, 2, none⟩ _ (by simp))
theorem Bx.set3 {T : TypeId} {g : Nat} {w : World} {u0 u1 u2 : Value} (h : Bx T g #[u0, u1, u2] w) (v0 v1 v2 : Value) : Bx T g #[v0, v1, v2] (set3 g v0 v1 v2 w) := by
  have := ((h.set 0 v0).set 1 v1).set 2 v2
  rw [show ((((#[u0, u1, u2] : Array Value).setIfInBounds 0 v0).setIfInBounds 1 v1).setIfInBounds 2 v2) = #[v0, v1, v2] by simp] at this
  exact this
/-- Numbers of 64 bits. -/
def i64R (n : Int) : Prop := -9223372036854775808 ≤ n ∧ n ≤ 9223372036854775807
instance (n : Int) : Decidable (i64R n) := by unfold i64R; infer_instance
end Go.Proofs.YthpiobkghfdkkaaGreat

namespace Go.Proofs.YthpiobkghfdkkaaGreat
open Go.RowKit
set_option linter.unusedVariables false

end Go.Proofs.YthpiobkghfdkkaaGreat

namespace Go.Proofs.YthpiobkghfdkkaaGreat
open Go.RowKit
set_option linter.unusedVariables false

end Go.Proofs.YthpiobkghfdkkaaGreat

namespace Go.Proofs.YthpiobkghfdkkaaGreat
open Go.RowKit
set_option linter.unusedVariables false

end Go.Proofs.YthpiobkghfdkkaaGreat

namespace Go.Proofs.YthpiobkghfdkkaaGreat
open Go.RowKit
set_option linter.unusedVariables false

end Go.Proofs.YthpiobkghfdkkaaGreat

namespace Go.Proofs.YthpiobkghfdkkaaGreat
open Go.RowKit
set_option linter.unusedVariables false

end Go.Proofs.YthpiobkghfdkkaaGreat

namespace Go.Proofs.YthpiobkghfdkkaaGreat
open Go.RowKit
set_option linter.unusedVariables false

end Go.Proofs.YthpiobkghfdkkaaGreat

namespace Go.Proofs.YthpiobkghfdkkaaGreat
open Go.RowKit
set_option linter.unusedVariables false

end Go.Proofs.YthpiobkghfdkkaaGreat

namespace Go.Proofs.YthpiobkghfdkkaaGreat
open Go.RowKit
set_option linter.unusedVariables false

end Go.Proofs.YthpiobkghfdkkaaGreat

namespace Go.Proofs.YthpiobkghfdkkaaGreat
open Go.RowKit
set_option linter.unusedVariables false

end Go.Proofs.YthpiobkghfdkkaaGreat

namespace Go.Proofs.YthpiobkghfdkkaaGreat
open Go.RowKit
set_option linter.unusedVariables false

end Go.Proofs.YthpiobkghfdkkaaGreat

namespace Go.Proofs.YthpiobkghfdkkaaGreat
open Go.RowKit
set_option linter.unusedVariables false

end Go.Proofs.YthpiobkghfdkkaaGreat
