/-
  Session's table in memory, and what New, Ask, Done and Last do to it.
-/
import Derived.Test.YtdfoangkjeoomaaNb
import Derived.ScopeJumps
namespace Go.Proofs.Ytdfoangkjeoomaa
open Go.RowKit
set_option linter.unusedVariables false
set_option maxRecDepth 100000

/-- Block p is the table T. -/
def TbAt (p : Nat) (T : List RQ) (w : World) : Prop := w.heap[p]? = some (.cells (tcells T).toArray 54 (0, 0)) ∧ T.length = 16
theorem TbAt.lt {p : Nat} {T : List RQ} {w : World} (h : TbAt p T w) : p < w.heap.size := (Array.getElem?_eq_some_iff.1 h.1).1
theorem TbAt.but {K : List Nat} {p : Nat} {T : List RQ} {w w' : World} (h : TbAt p T w) (hb : But K w w') (hp : p ∉ K) : TbAt p T w' := ⟨hb.heap h.1 hp, h.2⟩
theorem TbAt.ev {p : Nat} {T : List RQ} {w w' : World} (h : TbAt p T w) (hb : Ev w w') : TbAt p T w' := h.but (But.of_ev (K := []) hb) (by simp)
theorem TbAt.f {p : Nat} {T : List RQ} {w : World} (h : TbAt p T w) (i : Nat) : w.frozen? ⟨p, i, none⟩ = false := Lib.frozen_of_heap h.1 i
theorem TbAt.cell {p : Nat} {T : List RQ} {w : World} (h : TbAt p T w) {c : Nat} (hc : c < 16) {i : Nat} (hi : i < 4) : w.cell? ⟨p, c * 4 + i, none⟩ = (qcells (T.getD c rq0))[i]? := by
  have h1 := h.2
  have hg : T[c]? = some (T.getD c rq0) := by simp [List.getD, show c < T.length by omega]
  have := tcells_get T c _ i hg hi
  rw [Lib.cell_of_heap h.1]
  rw [List.getElem?_toArray, show c * 4 + i = 4 * c + i by omega, this]

theorem sess_new (w : World) :
    Calls Try.prog 7 #[] w fun e w' => e = .returned (.pointer (some ⟨w.heap.size, 0, none⟩)) ∧ TbAt w.heap.size newT w' ∧ Ev w w' := by
  go_enter Try.func7, Try.ntmps7
  go_wp2
  go_ret
  exact ⟨rfl, ⟨heap_alloc_new w _, rfl⟩, Ev.alloc _ _⟩

def isC (x : Int) : Bool := decide (0 ≤ x) && decide (x < 16)
theorem sess_isClient (x : Int) (w : World) :
    Calls Try.prog 16 #[.int .i64 x] w fun e w' => e = .returned (.bool (isC x)) ∧ w' = w := by
  by_cases h : 0 ≤ x
  · have e : isC x = decide (x < 16) := by simp [isC, h]
    rw [e]
    go_enter Try.func16, Try.ntmps16
    go_wp2
    go_ret
    exact ⟨rfl, rfl⟩
  · have e : isC x = false := by simp [isC, h]
    rw [e]
    go_enter Try.func16, Try.ntmps16
    go_wp2
    go_ret
    exact ⟨rfl, rfl⟩

set_option maxHeartbeats 1600000 in
theorem sess_last (p : Nat) (T : List RQ) (x : Int) (w : World) (h : TbAt p T w) :
    Calls Try.prog 12 #[.pointer (some ⟨p, 0, none⟩), .int .i64 x] w fun e w' => e = .returned (.int .i64 (lastS T x)) ∧ w' = w := by
  have HC := Lib.hid (sess_isClient x w)
  by_cases hx : 0 ≤ x ∧ x < 16
  · obtain ⟨c, rfl⟩ : ∃ c : Nat, x = c := ⟨x.toNat, by omega⟩
    have hc : c < 16 := by omega
    have c0 := h.cell hc (i := 0) (by decide)
    have e : lastS T (c : Int) = (T.getD c rq0).1 := by unfold lastS; rw [if_neg (by omega)]; rfl
    have hi : isC (c : Int) = true := by simp [isC]; omega
    rw [e]
    generalize T.getD c rq0 = q at *
    simp only [qcells, List.getElem?_cons_zero, Nat.add_zero] at c0
    have HI := Lib.hid hi
    clear e h hx hi
    go_enter Try.func12, Try.ntmps12
    go_wp2_with (refine HC.out.mono ?_; rintro e w' ⟨rfl, rfl⟩; rw [HI.out])
    go_ret
    exact ⟨rfl, rfl⟩
  · have e : lastS T x = 0 := by unfold lastS; rw [if_pos (by omega)]
    have hi : isC x = false := by simp only [isC, Bool.and_eq_false_iff, decide_eq_false_iff_not]; omega
    have HI := Lib.hid hi
    rw [e]
    clear e h hx hi
    go_enter Try.func12, Try.ntmps12
    go_wp2_with (refine HC.out.mono ?_; rintro e w' ⟨rfl, rfl⟩; rw [HI.out])
    go_ret
    exact ⟨rfl, rfl⟩
end Go.Proofs.Ytdfoangkjeoomaa
