/-
  Texts that belong together: Package sexp: a number's beginning, escapes.
-/
import Derived.Laws.Bits64b
import Derived.Lib.Bytealg
import Derived.Test.YtgiofdmedhhobaaZ7N
namespace Go.Proofs.Ytgiofdmedhhobaa
open Go.RowKit
set_option linter.unusedVariables false

theorem sxHex_at (x : UInt8) : Lib.indexByte [48, 49, 50, 51, 52, 53, 54, 55, 56, 57, 97, 98, 99, 100, 101, 102] x = match sxHex x with | none => -1 | some a => (a : Int) := by
  have h : ∀ n, n < 256 → Lib.indexByte [48, 49, 50, 51, 52, 53, 54, 55, 56, 57, 97, 98, 99, 100, 101, 102] (UInt8.ofNat n) = match sxHex (UInt8.ofNat n) with | none => -1 | some a => (a : Int) := by decide +kernel
  have := h x.toNat x.toNat_lt
  rwa [UInt8.ofNat_toNat] at this
theorem sxHex_lt {x : UInt8} {a : Nat} (h : sxHex x = some a) : a < 16 := by
  unfold sxHex at h
  split at h
  · simp at h; omega
  · split at h
    · simp at h; omega
    · cases h
def sxEsc (l : By) : Nat → Nat → Nat → UInt8 × Int
  | 0, _, n => (UInt8.ofNat n, 0)
  | r + 1, k, n => match l[k]? with
    | none => (0, 10)
    | some x => match sxHex x with
      | none => (0, 12)
      | some a => sxEsc l r (k + 1) (16 * n + a)
theorem sxEsc_eq (l : By) : sxEscaped l = sxEsc l 2 0 0 := by
  cases l with
  | nil => rfl
  | cons x q =>
    unfold sxEscaped sxEsc
    simp only [List.getElem?_cons_zero]
    cases sxHex x with
    | none => rfl
    | some a =>
      unfold sxEsc
      cases q with
      | nil => rfl
      | cons y q2 =>
        simp only [Nat.zero_add, List.getElem?_cons_succ, List.getElem?_cons_zero]
        cases sxHex y with
        | none => rfl
        | some b => simp [sxEsc]
theorem sx_or (n a : Nat) (hn : n < 16) (ha : a < 16) : bits .or .i64 ((n : Int) * 16) (a : Int) = ((16 * n + a : Nat) : Int) := by
  have h : ∀ n : Nat, n < 16 → ∀ a : Nat, a < 16 → bits .or .i64 ((n : Int) * 16) (a : Int) = ((16 * n + a : Nat) : Int) := by decide +kernel
  exact h n hn a ha

end Go.Proofs.Ytgiofdmedhhobaa
