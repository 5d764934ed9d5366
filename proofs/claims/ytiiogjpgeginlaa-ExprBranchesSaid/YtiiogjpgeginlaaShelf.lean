/-
  Contracts of the library at this translation, laid by the kit's own command in plain words: what the proofs here lean on.
-/
import Derived.Shelf.Strconv.Itoa0
import Derived.Test.YtiiogjpgeginlaaProg
namespace Go.Proofs
open Go.Shelf
end Go.Proofs
