/-
  Texts that belong together: The contracts of wire's Reader, and of bytes.Clone: what each method reads, where it stands behind it, and that it turns its own block alone. The contracts of package value: what is right, less, put, got and shown. The contracts of the document's own Writer (chapter 1) and Put (chapter 4): copies in new memory. The contracts of the document's own Reader (chapter 1) and Get (chapter 4), against the same plain functions as the program's. The document's own Reader: raw, number and what reads by them. The document's own Byte, Short, Long, Text and Get. The document's own Get (chapter 4): it gives what the program's Get gives, from the same bytes.
-/
import Derived.Test.YthpiobkghfdkkaaGreatProg
import Derived.BigQuiet
import Derived.Deep.QuietTactic
import Derived.WalkMore
import Derived.ScopeJumps
import Derived.Lib.SliceRun
import Derived.Test.YthpiobkghfdkkaaGreatZ5O
import Derived.Test.YthpiobkghfdkkaaGreatZ6O
import Derived.Test.YthpiobkghfdkkaaGreatZ2O
namespace Go.Proofs.YthpiobkghfdkkaaGreat
open Go.RowKit
set_option linter.unusedVariables false

variable {p : Nat} {A : Option Addr} {n cap : Nat} {L : List UInt8} {why pos : Nat} {w w' : World}
/-- The address, if there is one, is one of the blocks that w' has and w has not. -/
def New (w w' : World) (A : Option Addr) : Prop := ∀ ad, A = some ad → w.heap.size ≤ ad.block ∧ ad.block < w'.heap.size

end Go.Proofs.YthpiobkghfdkkaaGreat

namespace Go.Proofs.YthpiobkghfdkkaaGreat
open Go.RowKit
set_option linter.unusedVariables false

/-- The Value of Kind k, N n, S s. -/
abbrev vv (k n : Int) (s : ByteArray) : Value := .agg #[.int .i64 k, .int .i64 n, .string s]
/-- P4.1: a value that is valid. -/
def rightV (k n : Int) (s : ByteArray) : Bool := if k = 1 then s.toList.isEmpty else if k = 2 then n == 0 && decide (s.size ≤ 40) else false

set_option maxRecDepth 100000 in
theorem value_right (k n : Int) (s : ByteArray) (w : World) :
    Calls Tryz.prog 104 #[vv k n s] w fun e w' => e = .returned (.bool (rightV k n s)) ∧ Ev w w' := by
  by_cases h1 : k = 1
  · subst h1
    go_enter Tryz.func104, Tryz.ntmps104
    go_wp2
    go_ret
    exact ⟨by simp [rightV], Ev.alloc _ _⟩
  · by_cases h2 : k = 2
    · subst h2
      by_cases h3 : n = 0
      · go_enter Tryz.func104, Tryz.ntmps104
        go_wp2
        go_ret
        exact ⟨by simp [rightV, h3, show ((s.size : Int) ≤ 40 ↔ s.size ≤ 40) by omega], Ev.alloc _ _⟩
      · go_enter Tryz.func104, Tryz.ntmps104
        go_wp2
        go_ret
        exact ⟨by simp [rightV, h3], Ev.alloc _ _⟩
    · go_enter Tryz.func104, Tryz.ntmps104
      go_wp2
      go_ret
      exact ⟨by simp [rightV, h1, h2], Ev.alloc _ _⟩
theorem Tryz.sizeVal : (Tryz.prog.info? 32).map (·.size) = some 3 := by kernel_rfl
/-- A result of type Value that lies in block g. -/
theorem ret_val {fn : Func} {q : Tmp} (h : fn.results = #[.cell q 32]) (tmps : Array Value) (w : World) (g : Nat) (k n : Int) (s : ByteArray)
    (hp : tmps.getD q undef = .pointer (some ⟨g, 0, none⟩)) (hg : w.heap[g]? = some (.cells #[.int .i64 k, .int .i64 n, .string s] 32 (0, 0))) :
    (results fn tmps).run Tryz.prog w = .ok (vv k n s) w :=
  results_cell_row h tmps w g 32 _ _ _ hp hg Tryz.underlying32 rfl Tryz.sizeVal

/-- P4.1: the order. Texts by their bytes. -/
def lessV (k n : Int) (s : ByteArray) (k' n' : Int) (s' : ByteArray) : Bool :=
  if rightV k n s && rightV k' n' s' then (if k = k' then (if k = 1 then decide (n < n') else Op.bytesLess s.toList s'.toList) else k == 1) else false

/-- The three cells of a value that is boxed at block g. -/
structure Boxed (g : Nat) (k n : Int) (s : ByteArray) (w : World) : Prop where
  blk : w.heap[g]? = some (.cells #[.int .i64 k, .int .i64 n, .string s] 32 (0, 0))
theorem Boxed.c0 {g : Nat} {k n : Int} {s : ByteArray} {w : World} (h : Boxed g k n s w) : w.cell? ⟨g, 0, none⟩ = some (.int .i64 k) := by rw [Lib.cell_of_heap h.blk]; rfl
theorem Boxed.c1 {g : Nat} {k n : Int} {s : ByteArray} {w : World} (h : Boxed g k n s w) : w.cell? ⟨g, 1, none⟩ = some (.int .i64 n) := by rw [Lib.cell_of_heap h.blk]; rfl
theorem Boxed.c2 {g : Nat} {k n : Int} {s : ByteArray} {w : World} (h : Boxed g k n s w) : w.cell? ⟨g, 2, none⟩ = some (.string s) := by rw [Lib.cell_of_heap h.blk]; rfl
theorem Boxed.ev {g : Nat} {k n : Int} {s : ByteArray} {w w' : World} (h : Boxed g k n s w) (he : Ev w w') : Boxed g k n s w' :=
  ⟨by rw [he.block g (Array.getElem?_eq_some_iff.1 h.blk).1]; exact h.blk⟩
theorem Boxed.new (k n : Int) (s : ByteArray) (w : World) : Boxed w.heap.size k n s (w.alloc (.cells #[.int .i64 k, .int .i64 n, .string s] 32)) := ⟨heap_alloc_new w _⟩
/-- Two at once. -/
theorem Boxed.two (k n : Int) (s : ByteArray) (k' n' : Int) (s' : ByteArray) (w : World) : ∃ w0, w0 = (w.alloc (.cells #[.int .i64 k, .int .i64 n, .string s] 32)).alloc (.cells #[.int .i64 k', .int .i64 n', .string s'] 32) ∧ Boxed w.heap.size k n s w0 ∧ Boxed (w.heap.size + 1) k' n' s' w0 ∧ Ev w w0 := by
  refine ⟨_, rfl, (Boxed.new k n s w).ev (Ev.alloc _ _), ?_, (Ev.alloc _ _).trans (Ev.alloc _ _)⟩
  have := Boxed.new k' n' s' (w.alloc (.cells #[.int .i64 k, .int .i64 n, .string s] 32))
  simpa using this

set_option maxRecDepth 100000 in
set_option maxHeartbeats 800000 in
theorem value_less (k n : Int) (s : ByteArray) (k' n' : Int) (s' : ByteArray) (w : World) :
    Calls Tryz.prog 107 #[vv k n s, vv k' n' s'] w fun e w' => e = .returned (.bool (lessV k n s k' n' s')) ∧ Ev w w' := by
  have hR := Lib.hid (fun w1 => value_right k n s w1)
  have hR' := Lib.hid (fun w1 => value_right k' n' s' w1)
  have hE : lessV k n s k' n' s' = if rightV k n s && rightV k' n' s' then (if k = k' then (if k = 1 then decide (n < n') else Op.bytesLess s.toList s'.toList) else k == 1) else false := rfl
  rw [hE]
  clear hE
  generalize rightV k n s = r at *
  generalize rightV k' n' s' = r' at *
  obtain ⟨w0, hw0, B, B', hE0⟩ := Boxed.two k n s k' n' s' w
  have c0 := B.c0; have c1 := B.c1; have c2 := B.c2; have d0 := B'.c0; have d1 := B'.c1; have d2 := B'.c2
  go_enter Tryz.func107, Tryz.ntmps107
  cases r
  · go_wp2_with (first | ((with_reducible refine (hR.out _).mono ?_); rintro x w1 ⟨rfl, hE1⟩; rw [← hw0] at hE1))
    go_ret
    exact ⟨rfl, hE0.trans hE1⟩
  · cases r'
    · go_wp2_with (first | ((with_reducible refine (hR.out _).mono ?_); rintro x w1 ⟨rfl, hE1⟩; rw [← hw0] at hE1; have d0 := (B'.ev hE1).c0; have d1 := (B'.ev hE1).c1; have d2 := (B'.ev hE1).c2) | ((with_reducible refine (hR'.out _).mono ?_); rintro x w2 ⟨rfl, hE2⟩))
      go_ret
      exact ⟨rfl, (hE0.trans hE1).trans hE2⟩
    · by_cases hk : k = k'
      · subst hk
        by_cases h1 : k = 1
        · subst h1
          go_wp2_with (first | ((with_reducible refine (hR.out _).mono ?_); rintro x w1 ⟨rfl, hE1⟩; rw [← hw0] at hE1; have B1' := B'.ev hE1; have d0 := B1'.c0; have d1 := B1'.c1; have d2 := B1'.c2) | ((with_reducible refine (hR'.out _).mono ?_); rintro x w2 ⟨rfl, hE2⟩; have B2 := (B.ev hE1).ev hE2; have B2' := B1'.ev hE2; have c0 := B2.c0; have c1 := B2.c1; have c2 := B2.c2; have d0 := B2'.c0; have d1 := B2'.c1; have d2 := B2'.c2))
          go_ret
          exact ⟨by simp, (hE0.trans hE1).trans hE2⟩
        · go_wp2_with (first | ((with_reducible refine (hR.out _).mono ?_); rintro x w1 ⟨rfl, hE1⟩; rw [← hw0] at hE1; have B1' := B'.ev hE1; have d0 := B1'.c0; have d1 := B1'.c1; have d2 := B1'.c2) | ((with_reducible refine (hR'.out _).mono ?_); rintro x w2 ⟨rfl, hE2⟩; have B2 := (B.ev hE1).ev hE2; have B2' := B1'.ev hE2; have c0 := B2.c0; have c1 := B2.c1; have c2 := B2.c2; have d0 := B2'.c0; have d1 := B2'.c1; have d2 := B2'.c2))
          go_ret
          exact ⟨by simp, (hE0.trans hE1).trans hE2⟩
      · go_wp2_with (first | ((with_reducible refine (hR.out _).mono ?_); rintro x w1 ⟨rfl, hE1⟩; rw [← hw0] at hE1; have B1' := B'.ev hE1; have d0 := B1'.c0; have d1 := B1'.c1; have d2 := B1'.c2) | ((with_reducible refine (hR'.out _).mono ?_); rintro x w2 ⟨rfl, hE2⟩; have B2 := (B.ev hE1).ev hE2; have B2' := B1'.ev hE2; have c0 := B2.c0; have c1 := B2.c1; have c2 := B2.c2; have d0 := B2'.c0; have d1 := B2'.c1; have d2 := B2'.c2))
        go_ret
        exact ⟨by simp, (hE0.trans hE1).trans hE2⟩

end Go.Proofs.YthpiobkghfdkkaaGreat

namespace Go.Proofs.YthpiobkghfdkkaaGreat
open Go.RowKit
set_option linter.unusedVariables false

/-- Behind two appends onto a row that the call has made itself nothing that was there has turned. -/
theorem Ev.rows {w w1 w2 : World} {v : Value} (h : Ev w w1) (hv : ∀ g, v.ownBlock = some g → w.heap.size ≤ g) (k : But (foot v) w1 w2) : Ev w w2 :=
  ((But.of_ev (K := []) h).trans k (fun x hx => .inr (hv x (mem_foot.1 hx)))).ev (by simp)
theorem Sprung.ge {w w1 : World} {v v' : Value} (h : Sprung w1 v v') (hs : w.heap.size ≤ w1.heap.size) (hv : ∀ g, v.ownBlock = some g → w.heap.size ≤ g) : ∀ g, v'.ownBlock = some g → w.heap.size ≤ g := fun g hg => by
  rcases h g hg with h1 | h1
  · exact hv g h1
  · omega

end Go.Proofs.YthpiobkghfdkkaaGreat

namespace Go.Proofs.YthpiobkghfdkkaaGreat
open Go.RowKit
set_option linter.unusedVariables false

variable {p : Nat} {A : Option Addr} {n cap : Nat} {L : List UInt8} {why pos at_ y z : Nat} {r : Bool} {w w' : World}
end Go.Proofs.YthpiobkghfdkkaaGreat

namespace Go.Proofs.YthpiobkghfdkkaaGreat
open Go.RowKit
set_option linter.unusedVariables false

variable {p : Nat} {A : Option Addr} {n cap : Nat} {L : List UInt8} {why pos : Nat} {w w' : World}
end Go.Proofs.YthpiobkghfdkkaaGreat

namespace Go.Proofs.YthpiobkghfdkkaaGreat
open Go.RowKit
set_option linter.unusedVariables false
variable {p : Nat} {A : Option Addr} {n cap : Nat} {L : List UInt8} {why pos : Nat} {w w' : World}

end Go.Proofs.YthpiobkghfdkkaaGreat

namespace Go.Proofs.YthpiobkghfdkkaaGreat
open Go.RowKit
set_option linter.unusedVariables false
variable {p : Nat} {A : Option Addr} {n cap : Nat} {L : List UInt8} {why pos : Nat} {w w' : World}

end Go.Proofs.YthpiobkghfdkkaaGreat
