/-
  This seat calls nothing of the library that wants a contract of the shelf.
-/
import Derived.Test.YthpiobkghfdkkaaGreatProg
import Derived.Sort.Grow
import Derived.Lib.LaidTab
import Derived.Lib.ItoaNum
namespace Go.Proofs
end Go.Proofs
