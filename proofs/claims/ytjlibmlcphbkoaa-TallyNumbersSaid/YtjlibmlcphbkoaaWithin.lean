/-
  The contract of confluencebook.Within, at bounds for which its sums do not wrap.
-/
import Derived.Test.YtjlibmlcphbkoaaChecked
import Derived.WalkKit
import Derived.IntWalk
import Derived.Lib.Hide
namespace Go.Proofs.Ytjlibmlcphbkoaa
open Go.RowKit

theorem ret_of_eq' {k : IntKind} {a b : Int} (h : a = b) : Ending.returned (.int k a) = .returned (.int k b) := by rw [h]
/-- 'Within', at bounds for which the sums do not wrap. -/
def within (n lo hi : Int) : Int := lo + (n % (hi - lo + 1))
theorem within_range {n lo hi : Int} (h : lo ≤ hi) : lo ≤ within n lo hi ∧ within n lo hi ≤ hi := by
  unfold within
  have h1 := Int.emod_nonneg n (show hi - lo + 1 ≠ 0 by omega)
  have h2 := Int.emod_lt_of_pos n (show 0 < hi - lo + 1 by omega)
  omega
theorem within_neg {n p : Int} (hp : 0 < p) (h : n.tmod p < 0) : n.tmod p + p = n % p := by
  have h1 := Int.emod_nonneg n (show p ≠ 0 by omega)
  have h2 := Int.emod_lt_of_pos n hp
  have h3 := Int.tmod_eq_emod (a := n) (b := p)
  rw [h3] at h ⊢
  split at h
  · omega
  · split
    · omega
    · rw [Int.natAbs_of_nonneg (by omega)]; omega
theorem within_pos {n p : Int} (hp : 0 < p) (h : ¬ n.tmod p < 0) : n.tmod p = n % p := by
  have h1 := Int.emod_nonneg n (show p ≠ 0 by omega)
  have h2 := Int.emod_lt_of_pos n hp
  have h3 := Int.tmod_eq_emod (a := n) (b := p)
  rw [h3] at h ⊢
  split at h
  · rw [if_pos ‹_›]; omega
  · rename_i hc
    rw [if_neg hc]
    rw [Int.natAbs_of_nonneg (by omega)] at h ⊢
    omega

set_option maxHeartbeats 400000 in
theorem within_any (n lo hi : Int) (w : World) (hn : (Lit.int .i64 n).wf = true) (h0 : 0 ≤ lo) (h1 : lo ≤ hi) (h2 : hi ≤ 4611686018427387903) :
    Calls Try.prog 16 #[.int .i64 n, .int .i64 lo, .int .i64 hi] w fun e w' => e = .returned (.int .i64 (within n lo hi)) ∧ w = w' := by
  have hb : -9223372036854775808 ≤ n ∧ n ≤ 9223372036854775807 := by simpa [Lit.wf, IntKind.min, IntKind.max, IntKind.signed, IntKind.bits] using hn
  obtain ⟨b1, b2⟩ := hb
  have hp : 0 < hi - lo + 1 := by omega
  have hne : ¬ hi - lo + 1 = 0 := by omega
  have m1 := Int.emod_nonneg n (show hi - lo + 1 ≠ 0 by omega)
  have m2 := Int.emod_lt_of_pos n hp
  by_cases hneg : n.tmod (hi - lo + 1) < 0
  · have HW := Lib.hid (within_neg hp hneg)
    have m3 : - (hi - lo + 1) ≤ n.tmod (hi - lo + 1) := by
      have := within_neg hp hneg
      omega
    clear hn
    go_enter Try.func16, Try.ntmps16
    go_wp2
    go_ret
    refine ⟨ret_of_eq' ?_, rfl⟩
    have := HW.out
    unfold within
    omega
  · have HW := Lib.hid (within_pos hp hneg)
    have m3 : n.tmod (hi - lo + 1) ≤ hi - lo := by
      have := within_pos hp hneg
      omega
    clear hn
    go_enter Try.func16, Try.ntmps16
    go_wp2
    go_ret
    refine ⟨ret_of_eq' ?_, rfl⟩
    have := HW.out
    unfold within
    omega

end Go.Proofs.Ytjlibmlcphbkoaa
