/-
  Texts that belong together: The contracts of wire's Reader, and of bytes.Clone: what each method reads, where it stands behind it, and that it turns its own block alone. The contracts of package value: what is right, less, put, got and shown. The contracts of the document's own Writer (chapter 1) and Put (chapter 4): copies in new memory. The contracts of the document's own Reader (chapter 1) and Get (chapter 4), against the same plain functions as the program's. The document's own Reader: raw, number and what reads by them. The document's own Byte, Short, Long, Text and Get. The document's own Get (chapter 4): it gives what the program's Get gives, from the same bytes.
-/
import Derived.Test.YtojbahjebfcmgaaGreatDoorProg
import Derived.BigQuiet
import Derived.Deep.QuietTactic
import Derived.WalkMore
import Derived.ScopeJumps
import Derived.Lib.SliceRun
import Derived.Test.YtojbahjebfcmgaaGreatDoorZ3W
import Derived.Test.YtojbahjebfcmgaaGreatDoorZ4W
import Derived.Test.YtojbahjebfcmgaaGreatDoorZ0W
namespace Go.Proofs.YtojbahjebfcmgaaGreatDoor
open Go.RowKit
set_option linter.unusedVariables false

variable {p : Nat} {A : Option Addr} {n cap : Nat} {L : List UInt8} {why pos : Nat} {w w' : World}
theorem set_heap {b : Nat} {cs : Array Value} {T : TypeId} (i : Nat) (x : Value) (h : w.heap[b]? = some (.cells cs T (0, 0))) : (w.setCell ⟨b, i, none⟩ x).heap[b]? = some (.cells (cs.setIfInBounds i x) T (0, 0)) := by
  simp only [World.setCell, Array.getElem?_modify, if_pos]
  rw [h]
  rfl
theorem But.set2 (b i j : Nat) (x y : Value) : But [b] w ((w.setCell ⟨b, i, none⟩ x).setCell ⟨b, j, none⟩ y) := (But.setCell ⟨b, i, none⟩ x (by simp)).then (But.setCell ⟨b, j, none⟩ y (by simp))

end Go.Proofs.YtojbahjebfcmgaaGreatDoor

namespace Go.Proofs.YtojbahjebfcmgaaGreatDoor
open Go.RowKit
set_option linter.unusedVariables false

/-- The Value of Kind k, N n, S s. -/
abbrev vv (k n : Int) (s : ByteArray) : Value := .agg #[.int .i64 k, .int .i64 n, .string s]
/-- P4.1: a value that is valid. -/
def rightV (k n : Int) (s : ByteArray) : Bool := if k = 1 then s.toList.isEmpty else if k = 2 then n == 0 && decide (s.size ≤ 40) else false

set_option maxRecDepth 100000 in
theorem value_right (k n : Int) (s : ByteArray) (w : World) :
    Calls Tryz.prog 197 #[vv k n s] w fun e w' => e = .returned (.bool (rightV k n s)) ∧ Ev w w' := by
  by_cases h1 : k = 1
  · subst h1
    go_enter Tryz.func197, Tryz.ntmps197
    go_wp2
    go_ret
    exact ⟨by simp [rightV], Ev.alloc _ _⟩
  · by_cases h2 : k = 2
    · subst h2
      by_cases h3 : n = 0
      · go_enter Tryz.func197, Tryz.ntmps197
        go_wp2
        go_ret
        exact ⟨by simp [rightV, h3, show ((s.size : Int) ≤ 40 ↔ s.size ≤ 40) by omega], Ev.alloc _ _⟩
      · go_enter Tryz.func197, Tryz.ntmps197
        go_wp2
        go_ret
        exact ⟨by simp [rightV, h3], Ev.alloc _ _⟩
    · go_enter Tryz.func197, Tryz.ntmps197
      go_wp2
      go_ret
      exact ⟨by simp [rightV, h1, h2], Ev.alloc _ _⟩
theorem Tryz.sizeVal : (Tryz.prog.info? 211).map (·.size) = some 3 := by kernel_rfl
/-- A result of type Value that lies in block g. -/
theorem ret_val {fn : Func} {q : Tmp} (h : fn.results = #[.cell q 211]) (tmps : Array Value) (w : World) (g : Nat) (k n : Int) (s : ByteArray)
    (hp : tmps.getD q undef = .pointer (some ⟨g, 0, none⟩)) (hg : w.heap[g]? = some (.cells #[.int .i64 k, .int .i64 n, .string s] 211 (0, 0))) :
    (results fn tmps).run Tryz.prog w = .ok (vv k n s) w :=
  results_cell_row h tmps w g 211 _ _ _ hp hg Tryz.underlying211 rfl Tryz.sizeVal

theorem value_num (n : Int) (w : World) :
    Calls Tryz.prog 167 #[.int .i64 n] w fun e w' => e = .returned (vv 1 n ⟨#[]⟩) ∧ Ev w w' := by
  go_enter Tryz.func167, Tryz.ntmps167
  go_wp2
  refine bodyPost_ret (ret_val rfl _ _ w.heap.size 1 n ⟨#[]⟩ rfl (heap_alloc_new w _)) rfl ?_
  exact ⟨rfl, Ev.alloc _ _⟩
theorem value_str (s : ByteArray) (w : World) :
    Calls Tryz.prog 168 #[.string s] w fun e w' => e = .returned (vv 2 0 s) ∧ Ev w w' := by
  go_enter Tryz.func168, Tryz.ntmps168
  go_wp2
  refine bodyPost_ret (ret_val rfl _ _ w.heap.size 2 0 s rfl (heap_alloc_new w _)) rfl ?_
  exact ⟨rfl, Ev.alloc _ _⟩

/-- The three cells of a value that is boxed at block g. -/
structure Boxed (g : Nat) (k n : Int) (s : ByteArray) (w : World) : Prop where
  blk : w.heap[g]? = some (.cells #[.int .i64 k, .int .i64 n, .string s] 211 (0, 0))
theorem Boxed.c0 {g : Nat} {k n : Int} {s : ByteArray} {w : World} (h : Boxed g k n s w) : w.cell? ⟨g, 0, none⟩ = some (.int .i64 k) := by rw [Lib.cell_of_heap h.blk]; rfl
theorem Boxed.c1 {g : Nat} {k n : Int} {s : ByteArray} {w : World} (h : Boxed g k n s w) : w.cell? ⟨g, 1, none⟩ = some (.int .i64 n) := by rw [Lib.cell_of_heap h.blk]; rfl
theorem Boxed.c2 {g : Nat} {k n : Int} {s : ByteArray} {w : World} (h : Boxed g k n s w) : w.cell? ⟨g, 2, none⟩ = some (.string s) := by rw [Lib.cell_of_heap h.blk]; rfl
theorem Boxed.ev {g : Nat} {k n : Int} {s : ByteArray} {w w' : World} (h : Boxed g k n s w) (he : Ev w w') : Boxed g k n s w' :=
  ⟨by rw [he.block g (Array.getElem?_eq_some_iff.1 h.blk).1]; exact h.blk⟩
theorem Boxed.but {K : List Nat} {g : Nat} {k n : Int} {s : ByteArray} {w w' : World} (h : Boxed g k n s w) (he : But K w w') (hg : g ∉ K) : Boxed g k n s w' := ⟨he.heap h.blk hg⟩
theorem Boxed.new (k n : Int) (s : ByteArray) (w : World) : Boxed w.heap.size k n s (w.alloc (.cells #[.int .i64 k, .int .i64 n, .string s] 211)) := ⟨heap_alloc_new w _⟩
/-- Two at once. -/
theorem Boxed.two (k n : Int) (s : ByteArray) (k' n' : Int) (s' : ByteArray) (w : World) : ∃ w0, w0 = (w.alloc (.cells #[.int .i64 k, .int .i64 n, .string s] 211)).alloc (.cells #[.int .i64 k', .int .i64 n', .string s'] 211) ∧ Boxed w.heap.size k n s w0 ∧ Boxed (w.heap.size + 1) k' n' s' w0 ∧ Ev w w0 := by
  refine ⟨_, rfl, (Boxed.new k n s w).ev (Ev.alloc _ _), ?_, (Ev.alloc _ _).trans (Ev.alloc _ _)⟩
  have := Boxed.new k' n' s' (w.alloc (.cells #[.int .i64 k, .int .i64 n, .string s] 211))
  simpa using this

theorem Wrote.after {p : Nat} {v v' : Value} {w w0 w' : World} (h : Ev w w0) (k : Wrote p v w0 v' w') : Wrote p v w v' w' := ⟨(But.of_ev h).then k.but, k.sprung.old h.size⟩
theorem Boxed.f {g : Nat} {k n : Int} {s : ByteArray} {w : World} (h : Boxed g k n s w) (i : Nat) : w.frozen? ⟨g, i, none⟩ = false := Lib.frozen_of_heap h.blk i
theorem Boxed.lt {g : Nat} {k n : Int} {s : ByteArray} {w : World} (h : Boxed g k n s w) : g < w.heap.size := (Array.getElem?_eq_some_iff.1 h.blk).1
/-- A value is stored into the box. -/
theorem Boxed.set {g : Nat} {k n : Int} {s : ByteArray} {w : World} (h : Boxed g k n s w) (k' n' : Int) (s' : ByteArray) :
    Boxed g k' n' s' (((w.setCell ⟨g, 0, none⟩ (.int .i64 k')).setCell ⟨g, 1, none⟩ (.int .i64 n')).setCell ⟨g, 2, none⟩ (.string s')) ∧
    But [g] w (((w.setCell ⟨g, 0, none⟩ (.int .i64 k')).setCell ⟨g, 1, none⟩ (.int .i64 n')).setCell ⟨g, 2, none⟩ (.string s')) :=
  ⟨⟨set_heap 2 _ (set_heap 1 _ (set_heap 0 _ h.blk))⟩, ((But.setCell ⟨g, 0, none⟩ _ (by simp)).then (But.setCell ⟨g, 1, none⟩ _ (by simp))).then (But.setCell ⟨g, 2, none⟩ _ (by simp))⟩
/-- What is stored into a result's own box turns nothing that was there. -/
theorem But.over {p g : Nat} {w w0 w3 w4 : World} (h0 : Ev w w0) (h : But [p] w0 w3) (h4 : But [g] w3 w4) (hg : w.heap.size ≤ g) : But [p] w w4 :=
  ((But.of_ev h0).then h).trans h4 (by simp; omega)
end Go.Proofs.YtojbahjebfcmgaaGreatDoor

namespace Go.Proofs.YtojbahjebfcmgaaGreatDoor
open Go.RowKit
set_option linter.unusedVariables false

theorem Sprung.ge {w w1 : World} {v v' : Value} (h : Sprung w1 v v') (hs : w.heap.size ≤ w1.heap.size) (hv : ∀ g, v.ownBlock = some g → w.heap.size ≤ g) : ∀ g, v'.ownBlock = some g → w.heap.size ≤ g := fun g hg => by
  rcases h g hg with h1 | h1
  · exact hv g h1
  · omega

end Go.Proofs.YtojbahjebfcmgaaGreatDoor

namespace Go.Proofs.YtojbahjebfcmgaaGreatDoor
open Go.RowKit
set_option linter.unusedVariables false

variable {p : Nat} {A : Option Addr} {n cap : Nat} {L : List UInt8} {why pos at_ y z : Nat} {r : Bool} {w w' : World}
end Go.Proofs.YtojbahjebfcmgaaGreatDoor

namespace Go.Proofs.YtojbahjebfcmgaaGreatDoor
open Go.RowKit
set_option linter.unusedVariables false

/-- v is an empty slice at the head of an empty row. -/
def EmptyRow (v : Value) (w : World) : Prop := ∃ g, v = .slice (some ⟨g, 0, none⟩) 0 0 ∧ w.heap[g]? = some (.cells #[] 5 (0, 0))
theorem EmptyRow.mono : Mono EmptyRow := by
  rintro v w w' hE ⟨g, rfl, hg⟩
  exact ⟨g, rfl, by rw [hE.block g (Array.getElem?_eq_some_iff.1 hg).1]; exact hg⟩
theorem EmptyRow.new (w : World) : EmptyRow (.slice (some ⟨w.heap.size, 0, none⟩) 0 0) (w.alloc (.cells #[] 5)) := ⟨_, rfl, heap_alloc_new w _⟩
variable {p : Nat} {A : Option Addr} {n cap : Nat} {L : List UInt8} {why pos : Nat} {w w' : World}
end Go.Proofs.YtojbahjebfcmgaaGreatDoor

namespace Go.Proofs.YtojbahjebfcmgaaGreatDoor
open Go.RowKit
set_option linter.unusedVariables false
variable {p : Nat} {A : Option Addr} {n cap : Nat} {L : List UInt8} {why pos : Nat} {w w' : World}

end Go.Proofs.YtojbahjebfcmgaaGreatDoor

namespace Go.Proofs.YtojbahjebfcmgaaGreatDoor
open Go.RowKit
set_option linter.unusedVariables false
variable {p : Nat} {A : Option Addr} {n cap : Nat} {L : List UInt8} {why pos : Nat} {w w' : World}

end Go.Proofs.YtojbahjebfcmgaaGreatDoor
