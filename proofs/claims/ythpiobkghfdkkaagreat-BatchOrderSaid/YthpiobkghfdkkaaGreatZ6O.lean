/-
  Texts that belong together: The contracts of wire's Writer: what each method writes, and which blocks it may turn.
-/
import Derived.Test.YthpiobkghfdkkaaGreatProg
import Derived.BigQuiet
import Derived.Deep.QuietTactic
import Derived.Test.YthpiobkghfdkkaaGreatZ5O
namespace Go.Proofs.YthpiobkghfdkkaaGreat
open Go.RowKit
set_option linter.unusedVariables false

/-- The k lowest bytes of n, the lowest first. -/
def le : Nat → Nat → List UInt8
  | 0, _ => []
  | k + 1, n => UInt8.ofNat n :: le k (n / 256)
/-- The low bits of an integer, as a number. -/
def low (x : Int) : Nat := (x % 18446744073709551616).toNat
end Go.Proofs.YthpiobkghfdkkaaGreat
