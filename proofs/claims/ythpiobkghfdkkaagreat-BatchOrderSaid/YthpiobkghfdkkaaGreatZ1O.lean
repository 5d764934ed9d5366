/-
  Texts that belong together: The contract of confluencebook.Within, at bounds for which its sums do not wrap.
-/
import Derived.Test.YthpiobkghfdkkaaGreatChecked
import Derived.WalkKit
import Derived.IntWalk
import Derived.Lib.Hide
namespace Go.Proofs.YthpiobkghfdkkaaGreat
open Go.RowKit

theorem ret_of_eq' {k : IntKind} {a b : Int} (h : a = b) : Ending.returned (.int k a) = .returned (.int k b) := by rw [h]
/-- 'Within', at bounds for which the sums do not wrap. -/
def within (n lo hi : Int) : Int := lo + (n % (hi - lo + 1))
end Go.Proofs.YthpiobkghfdkkaaGreat
