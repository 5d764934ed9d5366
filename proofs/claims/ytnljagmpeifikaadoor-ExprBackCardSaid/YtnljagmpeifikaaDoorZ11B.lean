/-
  Texts that belong together: The document's own Digits, Quote and Show (chapter 4).
-/
import Derived.BigQuiet
import Derived.Deep.QuietTactic
import Derived.Lib.ItoaLen
import Derived.Test.YtnljagmpeifikaaDoorZ5B
import Derived.Test.YtnljagmpeifikaaDoorZ6B
namespace Go.Proofs.YtnljagmpeifikaaDoor
open Go.RowKit
set_option linter.unusedVariables false

/-- The digits of v, none for 0. -/
def dig (v : Nat) : List UInt8 := if v = 0 then [] else Lib.decDigits v
theorem dig_step (v : Nat) : dig (v / 10) ++ [UInt8.ofNat (48 + v % 10)] = Lib.decDigits v := by
  unfold dig
  by_cases h : v < 10
  · rw [if_pos (by omega), Lib.decDigits_one h, show v % 10 = v by omega]
    rfl
  · rw [if_neg (by omega)]
    conv => rhs; rw [Lib.decDigits, dif_neg h]

theorem digit_at (i : Nat) (h : i < 10) : (⟨#[48, 49, 50, 51, 52, 53, 54, 55, 56, 57]⟩ : ByteArray).extract i (i + 1) = ⟨#[UInt8.ofNat (48 + i)]⟩ := by
  rw [Lib.extract_eq]
  have : ∀ i, i < 10 → (((⟨#[48, 49, 50, 51, 52, 53, 54, 55, 56, 57]⟩ : ByteArray).data.toList.drop i).take (i + 1 - i)) = [UInt8.ofNat (48 + i)] := by decide
  rw [this i h]
theorem cat_lists (a b : List UInt8) : (⟨a.toArray⟩ : ByteArray) ++ ⟨b.toArray⟩ = ⟨(a ++ b).toArray⟩ := by
  apply toList_inj
  simp [Lib.toList_data]
def strLen : Value → Nat | .string b => b.size | _ => 0

theorem hexD_at (i : Nat) (h : i < 16) : (⟨#[48, 49, 50, 51, 52, 53, 54, 55, 56, 57, 97, 98, 99, 100, 101, 102]⟩ : ByteArray).extract i (i + 1) = ⟨#[hexB i]⟩ := by
  rw [Lib.extract_eq]
  have : ∀ i, i < 16 → (((⟨#[48, 49, 50, 51, 52, 53, 54, 55, 56, 57, 97, 98, 99, 100, 101, 102]⟩ : ByteArray).data.toList.drop i).take (i + 1 - i)) = [hexB i] := by decide
  rw [this i h]

theorem cat_four (X : List UInt8) (a b c : UInt8) : (⟨X.toArray⟩ : ByteArray) ++ ⟨#[a]⟩ ++ ⟨#[b]⟩ ++ ⟨#[c]⟩ = ⟨(X ++ [a, b, c]).toArray⟩ := by
  have h1 : ∀ x : UInt8, (⟨#[x]⟩ : ByteArray) = ⟨[x].toArray⟩ := fun _ => rfl
  rw [h1, h1, h1, cat_lists, cat_lists, cat_lists]
  simp
theorem getD_at (s : ByteArray) (k : Nat) (h : k < s.size) : s[k] = s.data.toList.getD k 0 := by
  obtain ⟨a⟩ := s
  have h2 : k < a.size := h
  show a[k] = _
  simp [List.getD, h2]
theorem one_at (s : ByteArray) (k : Nat) (h : k < s.size) (c : UInt8) (hc : ∀ hh, s[k]'hh = c) : s.extract k (k + 1) = ⟨#[c]⟩ := by
  have h2 : k < s.data.toList.length := by rw [Array.length_toList]; exact h
  rw [Lib.extract_eq, show k + 1 - k = 1 by omega, List.take_one, List.head?_drop]
  have h3 := getD_at s k h
  rw [hc h, List.getD, List.getElem?_eq_getElem h2, Option.getD_some] at h3
  rw [List.getElem?_eq_getElem h2, ← h3]
  rfl

end Go.Proofs.YtnljagmpeifikaaDoor
