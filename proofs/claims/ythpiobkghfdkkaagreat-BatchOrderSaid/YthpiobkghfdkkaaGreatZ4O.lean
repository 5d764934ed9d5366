/-
  Texts that belong together: Words for memory: a slice of bytes that reads as a list, and what keeps it. Over the kit's own words ('Below', 'ownsRow'); of the program only the number of the type uint8 is used.
-/
import Derived.WalkKit
import Derived.WalkSpells
import Derived.Deep.AppendLies
import Derived.Lib.BufferRead
import Derived.Laws.AppendOwnNone
import Derived.Lib.SlBytesConst
import Derived.Test.YthpiobkghfdkkaaGreatZ2O
namespace Go.Proofs.YthpiobkghfdkkaaGreat
open Go.RowKit

/-- The cell that holds a byte; a list of them. -/
def bv (c : UInt8) : Value := .int .u8 (c.toNat : Int)
/-- The address of 'b[k:]', in the walk's own spelling. -/
def from_ (A : Option Addr) (cap k : Nat) : Option Addr := if cap = k then A else Option.map (fun x => { block := x.block, off := x.off + k }) A
theorem own_ev {w w' : World} {base : Nat} {e : TypeId} {size : Nat} {v : Value} {n : Nat} {xs : List Value} (h : w.ownsRow base e size v n xs) (hE : Ev w w') : w'.ownsRow base e size v n xs := by
  refine ⟨h.1, ?_⟩
  rcases h.2 with h2 | ⟨g, cap, cur, hv, hg, hh, r⟩
  · exact Or.inl h2
  · exact Or.inr ⟨g, cap, cur, hv, hg, by rw [hE.block g (Array.getElem?_eq_some_iff.1 hh).1]; exact hh, r⟩

end Go.Proofs.YthpiobkghfdkkaaGreat
