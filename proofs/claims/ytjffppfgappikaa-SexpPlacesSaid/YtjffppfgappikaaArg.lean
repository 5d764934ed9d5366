/-
  An argument of type Value, opened and shut again; the order and the sameness of values.
-/
import Derived.Test.YtjffppfgappikaaRows
import Derived.Test.YtjffppfgappikaaVal
import Derived.Lib.SmallJoins
import Derived.ProofKit
import Derived.OpenShut
namespace Go.Proofs.Ytjffppfgappikaa
open Go.RowKit Go.WideShapes Go.ChangeShapes
set_option linter.unusedVariables false

section
variable {H : Type} {enc : TypeId × Value → H} {w : World} {base : Nat} {sp : Nat → Bool} {held : Bool}
end

/-- Two values are the same. -/
def sameV (k n : Int) (s : ByteArray) (k' n' : Int) (s' : ByteArray) : Bool := k == k' && (n == n' && s.toList == s'.toList)
theorem toList_inj {s t : ByteArray} (h : s.toList = t.toList) : s = t := by
  obtain ⟨⟨x⟩⟩ := s
  obtain ⟨⟨y⟩⟩ := t
  simpa using h
theorem sameV_iff {k n : Int} {s : ByteArray} {k' n' : Int} {s' : ByteArray} : sameV k n s k' n' s' = true ↔ k = k' ∧ n = n' ∧ s = s' := by
  unfold sameV
  constructor
  · intro h
    simp only [Bool.and_eq_true, beq_iff_eq] at h
    exact ⟨h.1, h.2.1, toList_inj h.2.2⟩
  · rintro ⟨rfl, rfl, rfl⟩
    simp
theorem sameV_self (k n : Int) (s : ByteArray) : sameV k n s k n s = true := sameV_iff.2 ⟨rfl, rfl, rfl⟩

end Go.Proofs.Ytjffppfgappikaa
