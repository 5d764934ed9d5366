/-
  The contracts of the document's own Writer (chapter 1) and Put (chapter 4): copies in new memory.
-/
import Derived.Test.YtcenjjoadhfhaaaVal
namespace Go.Proofs.Ytcenjjoadhfhaaa
open Go.RowKit
set_option linter.unusedVariables false

/-- The call gives back a slice of new memory that holds l; what was there is as it was. -/
def GivesRow (l : List UInt8) (w : World) (e : Ending) (w' : World) : Prop := ∃ v, e = .returned v ∧ Row w' v l ∧ (∀ g, v.ownBlock = some g → w.heap.size ≤ g) ∧ Ev w w'

theorem made_bytes (w : World) : Row (w.alloc (.cells #[] 5)) (.slice (some ⟨w.heap.size, 0, none⟩) 0 0) [] := Row.of (base := 0) (World.ownsRow_made w #[] 0 (Nat.zero_le _) (by unfold maxLen; omega) rfl)
theorem low_byte (x : Int) : ((UInt8.ofNat (low x)).toNat : Int) = x % 256 := by
  have h := low_cast x
  simp
  omega
theorem low_byte8 (x : Int) : ((UInt8.ofNat (low x / 256)).toNat : Int) = x / 256 % 256 := by
  have h := low_cast x
  simp
  omega
theorem le1 (x : Int) : le 1 (low x) = [UInt8.ofNat (low x)] := rfl
theorem le2 (x : Int) : le 2 (low x) = [UInt8.ofNat (low x), UInt8.ofNat (low x / 256)] := rfl
theorem bs_one (w : World) (x : Int) : Bs (w.alloc (.cells #[.int .u8 (x % 256)] 5)) (some ⟨w.heap.size, 0, none⟩) 1 1 (le 1 (low x)) :=
  Bs.made (le 1 (low x)) _ (by rw [le1]; simp only [bvs, List.map_cons, List.map_nil, bv, low_byte]) (by simp [le_length])
theorem bs_two (w : World) (x : Int) : Bs (w.alloc (.cells #[.int .u8 (x % 256), .int .u8 (x / 256 % 256)] 5)) (some ⟨w.heap.size, 0, none⟩) 2 2 (le 2 (low x)) :=
  Bs.made (le 2 (low x)) _ (by rw [le2]; simp only [bvs, List.map_cons, List.map_nil, bv, low_byte, low_byte8]) (by simp [le_length])
/-- Behind two appends onto a row that the call has made itself nothing that was there has turned. -/
theorem Ev.rows {w w1 w2 : World} {v : Value} (h : Ev w w1) (hv : ∀ g, v.ownBlock = some g → w.heap.size ≤ g) (k : But (foot v) w1 w2) : Ev w w2 :=
  ((But.of_ev (K := []) h).trans k (fun x hx => .inr (hv x (mem_foot.1 hx)))).ev (by simp)
theorem Sprung.ge {w w1 : World} {v v' : Value} (h : Sprung w1 v v') (hs : w.heap.size ≤ w1.heap.size) (hv : ∀ g, v.ownBlock = some g → w.heap.size ≤ g) : ∀ g, v'.ownBlock = some g → w.heap.size ≤ g := fun g hg => by
  rcases h g hg with h1 | h1
  · exact hv g h1
  · omega

theorem le_bits (x : Int) (h0 : -9223372036854775808 ≤ x) (h1 : x ≤ 9223372036854775807) : ∀ i, i < 8 → ((UInt8.ofNat (low x / 256 ^ i)).toNat : Int) = x / 2 ^ (8 * i) % 256 := by
  intro i hi
  have h := low_cast x
  have e : i = 0 ∨ i = 1 ∨ i = 2 ∨ i = 3 ∨ i = 4 ∨ i = 5 ∨ i = 6 ∨ i = 7 := by omega
  rcases e with rfl | rfl | rfl | rfl | rfl | rfl | rfl | rfl <;> simp <;> omega

end Go.Proofs.Ytcenjjoadhfhaaa
