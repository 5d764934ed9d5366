/-
  Texts that belong together: The contracts of package row: Columns, Fits, Less. The book of memory: numbers, texts and rows of the laws' own; two rows held against one another. The contract of row.Columns. Chapter 5's runs ('known'). The document's own Columns (chapter 5). What the walks of stage 5's laws share: a Writer and a Reader in new memory; what is put is got. The walk of RowNumbers.
-/
import Derived.Deep.Cut
import Derived.Test.YtojbahjebfcmgaaGreatDoorZ8W
import Derived.Test.YtojbahjebfcmgaaGreatDoorZ6W
import Derived.Test.YtojbahjebfcmgaaGreatDoorZ5W
namespace Go.Proofs.YtojbahjebfcmgaaGreatDoor
open Go.RowKit
set_option linter.unusedVariables false

/-- A column in its own box. -/
structure Colbox (g : Nat) (s : ByteArray) (k : Int) (w : World) : Prop where
  blk : w.heap[g]? = some (.cells #[.string s, .int .i64 k] 59 (0, 0))
theorem Colbox.c0 {g : Nat} {s : ByteArray} {k : Int} {w : World} (h : Colbox g s k w) : w.cell? ⟨g, 0, none⟩ = some (.string s) := by rw [Lib.cell_of_heap h.blk]; rfl
theorem Colbox.c1 {g : Nat} {s : ByteArray} {k : Int} {w : World} (h : Colbox g s k w) : w.cell? ⟨g, 1, none⟩ = some (.int .i64 k) := by rw [Lib.cell_of_heap h.blk]; rfl
theorem Colbox.ev {g : Nat} {s : ByteArray} {k : Int} {w w' : World} (h : Colbox g s k w) (he : Ev w w') : Colbox g s k w' :=
  ⟨by rw [he.block g (Array.getElem?_eq_some_iff.1 h.blk).1]; exact h.blk⟩
theorem Colbox.new (s : ByteArray) (k : Int) (w : World) : Colbox w.heap.size s k (w.alloc (.cells #[.string s, .int .i64 k] 59)) := ⟨heap_alloc_new w _⟩

end Go.Proofs.YtojbahjebfcmgaaGreatDoor

namespace Go.Proofs.YtojbahjebfcmgaaGreatDoor
open Go.RowKit
set_option linter.unusedVariables false

/-- The slice holds the numbers l (int64). -/
abbrev Is := Sl 1 (fun x : Int => [.int .i64 x])

end Go.Proofs.YtojbahjebfcmgaaGreatDoor

namespace Go.Proofs.YtojbahjebfcmgaaGreatDoor
open Go.RowKit
set_option linter.unusedVariables false

theorem Colbox.lt {g : Nat} {s : ByteArray} {k : Int} {w : World} (h : Colbox g s k w) : g < w.heap.size := (Array.getElem?_eq_some_iff.1 h.blk).1

end Go.Proofs.YtojbahjebfcmgaaGreatDoor

namespace Go.Proofs.YtojbahjebfcmgaaGreatDoor
open Go.RowKit
set_option linter.unusedVariables false

theorem Is.made (l : List Int) (n : Nat) (hn : l.length = n) (hm : n ≤ 1000) (w : World) (cs : Array Value) (hc : cs = (l.map fun x => Value.int .i64 x).toArray) : Is (w.alloc (.cells cs 2)) (some ⟨w.heap.size, 0, none⟩) n n l :=
  ⟨hn, Nat.le_refl _, by omega, by simp, fun _ => ⟨w.heap.size, 0, rfl, by simp, fun i x hx j u hu => by
    have hi := (List.getElem?_eq_some_iff.1 hx).1
    have hj : j = 0 := by have := (List.getElem?_eq_some_iff.1 hu).1; simp at this; omega
    subst hj
    rw [Lib.cell_of_heap (heap_alloc_new w _), hc, List.getElem?_toArray, List.getElem?_map]
    rw [Nat.mul_one, Nat.zero_add, Nat.add_zero, hx]
    simpa using hu⟩⟩
end Go.Proofs.YtojbahjebfcmgaaGreatDoor

namespace Go.Proofs.YtojbahjebfcmgaaGreatDoor
open Go.RowKit
set_option linter.unusedVariables false

end Go.Proofs.YtojbahjebfcmgaaGreatDoor

namespace Go.Proofs.YtojbahjebfcmgaaGreatDoor
open Go.RowKit
set_option linter.unusedVariables false

theorem Sl.lt {α : Type} {k : Nat} {enc : α → List Value} {w : World} {A : Option Addr} {n cap : Nat} {l : List α} (h : Sl k enc w A n cap l) (h0 : 0 < n) : ∀ ad, A = some ad → ad.block < w.heap.size := by
  intro ad e
  obtain ⟨b, off, e2, hb, _⟩ := h.rd h0
  rw [e] at e2
  obtain rfl := Option.some.inj e2
  exact hb

end Go.Proofs.YtojbahjebfcmgaaGreatDoor

namespace Go.Proofs.YtojbahjebfcmgaaGreatDoor
open Go.RowKit
set_option linter.unusedVariables false

theorem flat_get {α : Type} {k : Nat} {enc : α → List Value} (hk : ∀ x, (enc x).length = k) : ∀ (l : List α) (i : Nat) (x : α), l[i]? = some x → ∀ j u, (enc x)[j]? = some u → (l.flatMap enc)[i * k + j]? = some u
  | [], _, _, h, _, _, _ => by simp at h
  | y :: l, 0, x, h, j, u, hu => by
    simp at h
    subst h
    have hj : j < (enc y).length := (List.getElem?_eq_some_iff.1 hu).1
    rw [List.flatMap_cons, Nat.zero_mul, Nat.zero_add, List.getElem?_append_left hj]
    exact hu
  | y :: l, i + 1, x, h, j, u, hu => by
    have e : (i + 1) * k + j - k = i * k + j := by rw [Nat.add_mul, Nat.one_mul]; omega
    rw [List.flatMap_cons, List.getElem?_append_right (by rw [hk, Nat.add_mul]; omega), hk, e]
    exact flat_get hk l i x (by simpa using h) j u hu
/-- A literal slice of structs. -/
theorem Sl.made {α : Type} {k : Nat} {enc : α → List Value} (hk : ∀ x, (enc x).length = k) (l : List α) (n : Nat) (hn : l.length = n) (hm : n ≤ 1000) (w : World) (cs : Array Value) (T : TypeId) (hc : cs = (l.flatMap enc).toArray) :
    Sl k enc (w.alloc (.cells cs T)) (some ⟨w.heap.size, 0, none⟩) n n l :=
  ⟨hn, Nat.le_refl _, by omega, by simp, fun _ => ⟨w.heap.size, 0, rfl, by simp, fun i x hx j u hu => by
    rw [Lib.cell_of_heap (heap_alloc_new w _), hc, List.getElem?_toArray, Nat.zero_add]
    exact flat_get hk l i x hx j u hu⟩⟩
theorem Cs.made (l : List C) (n : Nat) (hn : l.length = n) (hm : n ≤ 1000) (w : World) (cs : Array Value) (hc : cs = (l.flatMap ccells).toArray) : Cs (w.alloc (.cells cs 59)) (some ⟨w.heap.size, 0, none⟩) n n l := Sl.made (enc := ccells) (fun _ => rfl) l n hn hm w cs _ hc
theorem Vs.made (l : List V) (n : Nat) (hn : l.length = n) (hm : n ≤ 1000) (w : World) (cs : Array Value) (hc : cs = (l.flatMap vcells).toArray) : Vs (w.alloc (.cells cs 211)) (some ⟨w.heap.size, 0, none⟩) n n l := Sl.made (enc := vcells) (fun _ => rfl) l n hn hm w cs _ hc

def tcols : List C := [(⟨#[97]⟩, 1), (⟨#[98]⟩, 1), (⟨#[115]⟩, 2)]
end Go.Proofs.YtojbahjebfcmgaaGreatDoor
