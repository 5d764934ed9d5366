/-
  The contracts of package row: names and columns.
-/
import Derived.Test.YtcenjjoadhfhaaaRow
import Derived.Lib.AtoiErrMem
import Derived.WalkSmall
namespace Go.Proofs.Ytcenjjoadhfhaaa
open Go.RowKit
set_option linter.unusedVariables false

theorem tl (s : ByteArray) : s.toList = s.data.toList := by
  obtain ⟨⟨x⟩⟩ := s
  simp
theorem word_yes {x W : List UInt8} (h : (x == W) = true) (hm : words.contains W = true) : words.contains x = true := by
  rw [beq_iff_eq] at h
  rw [h]
  exact hm

theorem letters_take {l : List UInt8} {k : Nat} {c : UInt8} (hk : k < l.length) (hc : l.getD k 0 = c) : (l.take (k + 1)).all letterB = ((l.take k).all letterB && letterB c) := by
  rw [List.take_succ_eq_append_getElem hk, List.all_append]
  simp [List.getD, hk] at hc
  simp [hc]
theorem letters_not {l : List UInt8} {k : Nat} {c : UInt8} (hk : k < l.length) (hc : l.getD k 0 = c) (h : letterB c = false) : l.all letterB = false := by
  rw [List.all_eq_false]
  simp [List.getD, hk] at hc
  exact ⟨c, hc ▸ List.getElem_mem hk, by simp [h]⟩
theorem nameV_long {s : ByteArray} (h : ¬ (1 ≤ s.size ∧ s.size ≤ 12)) : nameV s = false := by
  unfold nameV
  by_cases h1 : 1 ≤ s.size
  · rw [decide_eq_false (p := s.size ≤ 12) (fun h2 => h ⟨h1, h2⟩)]; simp
  · rw [decide_eq_false h1]; rfl
theorem nameV_in {s : ByteArray} (h1 : 1 ≤ s.size) (h2 : s.size ≤ 12) : nameV s = (s.data.toList.all letterB && !words.contains s.data.toList) := by
  unfold nameV
  rw [decide_eq_true h1, decide_eq_true h2]; rfl

end Go.Proofs.Ytcenjjoadhfhaaa
