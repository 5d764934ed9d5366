/-
  Chapter 17 in plain words: a table of the last request of each client, what is asked of it, how it is written and read.
-/
import Derived.Test.YtdfoangkjeoomaaReader
namespace Go.Proofs.Ytdfoangkjeoomaa
open Go.RowKit
set_option linter.unusedVariables false

/-- A reply: why, at, name; a request: its seq and its reply. -/
abbrev RP := Int × Int × ByteArray
abbrev RQ := Int × RP
def rp0 : RP := (0, 0, ByteArray.empty)
def rq0 : RQ := (0, rp0)
def qcells (q : RQ) : List Value := [.int .i64 q.1, .int .i64 q.2.1, .int .i64 q.2.2.1, .string q.2.2.2]
def tcells (T : List RQ) : List Value := T.flatMap qcells
theorem tcells_length : ∀ T : List RQ, (tcells T).length = 4 * T.length
  | [] => rfl
  | q :: T => by
    have := tcells_length T
    simp only [tcells, List.flatMap_cons, List.length_append, List.length_cons] at *
    rw [this]; simp [qcells]; omega
theorem tcells_get : ∀ (T : List RQ) (c : Nat) (q : RQ) (i : Nat), T[c]? = some q → i < 4 → (tcells T)[4 * c + i]? = (qcells q)[i]?
  | [], c, q, i, h, hi => by simp at h
  | x :: T, 0, q, i, h, hi => by
    simp at h; subst h
    simp only [tcells, List.flatMap_cons]
    rw [List.getElem?_append_left (by simp [qcells]; omega)]
    simp
  | x :: T, c + 1, q, i, h, hi => by
    simp at h
    have := tcells_get T c q i h hi
    simp only [tcells, List.flatMap_cons] at *
    rw [List.getElem?_append_right (by simp [qcells]; omega)]
    have e : 4 * (c + 1) + i - (qcells x).length = 4 * c + i := by simp [qcells]; omega
    rw [e, this]
theorem tcells_set : ∀ (T : List RQ) (c : Nat) (q : RQ), c < T.length → ((((tcells T).set (4 * c) (.int .i64 q.1)).set (4 * c + 1) (.int .i64 q.2.1)).set (4 * c + 2) (.int .i64 q.2.2.1)).set (4 * c + 3) (.string q.2.2.2) = tcells (T.set c q)
  | [], c, q, h => by simp at h
  | x :: T, 0, q, h => by simp [tcells, qcells]
  | x :: T, c + 1, q, h => by
    have := tcells_set T c q (by simpa using h)
    simp only [tcells, List.flatMap_cons, List.set_cons_succ] at *
    rw [← this]
    have e : 4 * (c + 1) = 4 * c + 4 := by omega
    rw [e]
    simp only [qcells, List.cons_append, List.nil_append, Nat.add_right_comm _ 4, List.set_cons_succ]

/-- What Ask tells of a table. -/
def askK (T : List RQ) (c s : Int) : Int :=
  if c < 0 ∨ 16 ≤ c ∨ s < 1 ∨ 1073741824 < s then 0
  else if (T.getD c.toNat rq0).1 < s then 1 else if s = (T.getD c.toNat rq0).1 then 2 else 3
def askR (T : List RQ) (c s : Int) : RP := if askK T c s = 2 then (T.getD c.toNat rq0).2 else rp0
def doneT (T : List RQ) (c s : Int) (r : RP) : List RQ := if askK T c s = 1 then T.set c.toNat (s, r) else T
def doneE (T : List RQ) (c s : Int) : Int := if askK T c s = 1 then 0 else 1
def lastS (T : List RQ) (c : Int) : Int := if c < 0 ∨ 16 ≤ c then 0 else (T.getD c.toNat rq0).1
theorem doneT_length (T : List RQ) (c s : Int) (r : RP) : (doneT T c s r).length = T.length := by unfold doneT; split <;> simp
def newT : List RQ := List.replicate 16 rq0

/-- A request as it may lie in a table: none (its reply then is zero), or one that was done. -/
def QOk (m : Nat) (q : RQ) : Prop := (q = rq0 ∨ 1 ≤ q.1 ∧ q.1 ≤ 1073741824) ∧ (-9223372036854775808 ≤ q.2.1 ∧ q.2.1 ≤ 9223372036854775807) ∧ (-9223372036854775808 ≤ q.2.2.1 ∧ q.2.2.1 ≤ 9223372036854775807) ∧ q.2.2.2.size ≤ m
def ROk (m : Nat) (r : RP) : Prop := (-9223372036854775808 ≤ r.1 ∧ r.1 ≤ 9223372036854775807) ∧ (-9223372036854775808 ≤ r.2.1 ∧ r.2.1 ≤ 9223372036854775807) ∧ r.2.2.size ≤ m
def TOk (m : Nat) (T : List RQ) : Prop := T.length = 16 ∧ ∀ q ∈ T, QOk m q
theorem rq0_ok (m : Nat) : QOk m rq0 := ⟨.inl rfl, by simp [rq0, rp0], by simp [rq0, rp0], by simp [rq0, rp0]⟩
theorem newT_ok (m : Nat) : TOk m newT := ⟨rfl, fun q hq => by obtain rfl := List.eq_of_mem_replicate hq; exact rq0_ok m⟩
theorem doneT_ok {m : Nat} {T : List RQ} (h : TOk m T) (c s : Int) {r : RP} (hr : ROk m r) : TOk m (doneT T c s r) := by
  unfold doneT
  split
  · rename_i hk
    refine ⟨by simp [h.1], fun q hq => ?_⟩
    rcases List.mem_or_eq_of_mem_set hq with h1 | rfl
    · exact h.2 q h1
    · refine ⟨.inr ?_, hr.1, hr.2.1, hr.2.2⟩
      unfold askK at hk
      split at hk
      · omega
      · simp only; omega
  · exact h
end Go.Proofs.Ytdfoangkjeoomaa
