/-
  The contract of confluencebook.Within, at bounds for which its sums do not wrap.
-/
import Derived.Test.YtcenjjoadhfhaaaChecked
import Derived.WalkKit
import Derived.IntWalk
import Derived.Lib.Hide
namespace Go.Proofs.Ytcenjjoadhfhaaa
open Go.RowKit

theorem ret_of_eq' {k : IntKind} {a b : Int} (h : a = b) : Ending.returned (.int k a) = .returned (.int k b) := by rw [h]
/-- 'Within', at bounds for which the sums do not wrap. -/
def within (n lo hi : Int) : Int := lo + (n % (hi - lo + 1))
theorem within_range {n lo hi : Int} (h : lo ≤ hi) : lo ≤ within n lo hi ∧ within n lo hi ≤ hi := by
  unfold within
  have h1 := Int.emod_nonneg n (show hi - lo + 1 ≠ 0 by omega)
  have h2 := Int.emod_lt_of_pos n (show 0 < hi - lo + 1 by omega)
  omega
theorem within_neg {n p : Int} (hp : 0 < p) (h : n.tmod p < 0) : n.tmod p + p = n % p := by
  have h1 := Int.emod_nonneg n (show p ≠ 0 by omega)
  have h2 := Int.emod_lt_of_pos n hp
  have h3 := Int.tmod_eq_emod (a := n) (b := p)
  rw [h3] at h ⊢
  split at h
  · omega
  · split
    · omega
    · rw [Int.natAbs_of_nonneg (by omega)]; omega
theorem within_pos {n p : Int} (hp : 0 < p) (h : ¬ n.tmod p < 0) : n.tmod p = n % p := by
  have h1 := Int.emod_nonneg n (show p ≠ 0 by omega)
  have h2 := Int.emod_lt_of_pos n hp
  have h3 := Int.tmod_eq_emod (a := n) (b := p)
  rw [h3] at h ⊢
  split at h
  · rw [if_pos ‹_›]; omega
  · rename_i hc
    rw [if_neg hc]
    rw [Int.natAbs_of_nonneg (by omega)] at h ⊢
    omega

end Go.Proofs.Ytcenjjoadhfhaaa
