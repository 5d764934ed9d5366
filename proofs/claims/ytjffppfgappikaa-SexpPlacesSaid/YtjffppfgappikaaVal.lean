/-
  The contracts of package value: what is right, less, put, got and shown.
-/
import Derived.Test.YtjffppfgappikaaProg
import Derived.Test.YtjffppfgappikaaBut
import Derived.Test.YtjffppfgappikaaWriter
import Derived.Test.YtjffppfgappikaaReader
import Derived.BigQuiet
import Derived.Deep.QuietTactic
namespace Go.Proofs.Ytjffppfgappikaa
open Go.RowKit
set_option linter.unusedVariables false

/-- The Value of Kind k, N n, S s. -/
abbrev vv (k n : Int) (s : ByteArray) : Value := .agg #[.int .i64 k, .int .i64 n, .string s]
/-- P4.1: a value that is valid. -/
def rightV (k n : Int) (s : ByteArray) : Bool := if k = 1 then s.toList.isEmpty else if k = 2 then n == 0 && decide (s.size ≤ 40) else false

/-- P4.1: the order. Texts by their bytes. -/
def lessV (k n : Int) (s : ByteArray) (k' n' : Int) (s' : ByteArray) : Bool :=
  if rightV k n s && rightV k' n' s' then (if k = k' then (if k = 1 then decide (n < n') else Op.bytesLess s.toList s'.toList) else k == 1) else false

/-- P4.2: what Put writes. -/
def putV (k n : Int) (s : ByteArray) : List UInt8 := le 1 (low k) ++ (if k = 1 then le 8 (low n) else textBytes s.data.toList)
theorem putV_length (k n : Int) (s : ByteArray) : (putV k n s).length ≤ s.size + 9 := by
  have : s.data.toList.length = s.size := by rw [Array.length_toList]; rfl
  unfold putV textBytes
  split <;> simp [le_length] <;> omega
theorem Wrote.after {p : Nat} {v v' : Value} {w w0 w' : World} (h : Ev w w0) (k : Wrote p v w0 v' w') : Wrote p v w v' w' := ⟨(But.of_ev h).then k.but, k.sprung.old h.size⟩
/-- P4.2: what is read for a value, be it whole or not, and where the Reader stands behind it. -/
def rdRaw (L : List UInt8) (why pos : Nat) : (Int × Int × List UInt8) × Nat × Nat :=
  let T := rdTake L why pos 1
  if leVal T.1 = 1 then ((1, wrap64 (leVal (rdTake L T.2.1 T.2.2 8).1 : Int), []), (rdTake L T.2.1 T.2.2 8).2)
  else if leVal T.1 = 2 then ((2, 0, (rdText L T.2.1 T.2.2 40).1), (rdText L T.2.1 T.2.2 40).2)
  else ((0, 0, []), rdStop T.2.1 T.2.2 12 T.2.2)
/-- P4.2: what Get gives. -/
def rdVal (L : List UInt8) (why pos : Nat) : (Int × Int × List UInt8) × Nat × Nat :=
  (if (rdRaw L why pos).2.1 = 0 then (rdRaw L why pos).1 else (0, 0, []), (rdRaw L why pos).2)

theorem Ev.of_drewN {w w' : World} (h : ∃ q, w' = w.drewN q) : Ev w w' := by
  obtain ⟨q, rfl⟩ := h
  exact Ev.drewN _ _
/-- What is stored into a result's own box turns nothing that was there. -/
theorem But.over {p g : Nat} {w w0 w3 w4 : World} (h0 : Ev w w0) (h : But [p] w0 w3) (h4 : But [g] w3 w4) (hg : w.heap.size ≤ g) : But [p] w w4 :=
  ((But.of_ev h0).then h).trans h4 (by simp; omega)
end Go.Proofs.Ytjffppfgappikaa
