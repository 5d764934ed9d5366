/-
  The contracts of the document's own Reader (chapter 1) and Get (chapter 4), against the same plain functions as the program's.
-/
import Derived.Test.YtkjodlngpdihhaaVal
import Derived.Test.YtkjodlngpdihhaaRefW
import Derived.BigQuiet
import Derived.Deep.QuietTactic
namespace Go.Proofs.Ytkjodlngpdihhaa
open Go.RowKit
set_option linter.unusedVariables false

/-- The five cells of the document's Reader at block p. -/
def Rc (p : Nat) (A : Option Addr) (n cap : Nat) (at_ : Nat) (r : Bool) (y z : Nat) (w : World) : Prop :=
  w.heap[p]? = some (.cells #[.slice A n cap, .int .i64 (at_ : Int), .bool r, .int .i64 (y : Int), .int .i64 (z : Int)] 53 (0, 0))
/-- What they say: the first error and its place, or how far it has read. -/
structure Says (why pos at_ : Nat) (r : Bool) (y z : Nat) : Prop where
  no : why = 0 → r = false ∧ at_ = pos
  yes : why ≠ 0 → r = true ∧ y = why ∧ z = pos
/-- Block p is a Reader of the document's over the bytes L. -/
structure Rq (p : Nat) (A : Option Addr) (n cap : Nat) (L : List UInt8) (why pos at_ : Nat) (r : Bool) (y z : Nat) (w : World) : Prop where
  blk : Rc p A n cap at_ r y z w
  says : Says why pos at_ r y z
  bs : Bs w A n cap L
  apart : ∀ ad, A = some ad → ad.block ≠ p ∧ ad.block < w.heap.size
  inside : at_ ≤ n
  small : n ≤ 140737488355328
/-- Some such cells. -/
def Rqs (p : Nat) (A : Option Addr) (n cap : Nat) (L : List UInt8) (why pos : Nat) (w : World) : Prop := ∃ at_ r y z, Rq p A n cap L why pos at_ r y z w
variable {p : Nat} {A : Option Addr} {n cap : Nat} {L : List UInt8} {why pos at_ y z : Nat} {r : Bool} {w w' : World}
theorem Rq.lt (h : Rq p A n cap L why pos at_ r y z w) : p < w.heap.size := (Array.getElem?_eq_some_iff.1 h.blk).1
theorem Rq.c0 (h : Rq p A n cap L why pos at_ r y z w) : w.cell? ⟨p, 0, none⟩ = some (.slice A n cap) := by rw [Lib.cell_of_heap h.blk]; rfl
theorem Rq.c1 (h : Rq p A n cap L why pos at_ r y z w) : w.cell? ⟨p, 1, none⟩ = some (.int .i64 (at_ : Int)) := by rw [Lib.cell_of_heap h.blk]; rfl
theorem Rq.c2 (h : Rq p A n cap L why pos at_ r y z w) : w.cell? ⟨p, 2, none⟩ = some (.bool r) := by rw [Lib.cell_of_heap h.blk]; rfl
theorem Rq.c3 (h : Rq p A n cap L why pos at_ r y z w) : w.cell? ⟨p, 3, none⟩ = some (.int .i64 (y : Int)) := by rw [Lib.cell_of_heap h.blk]; rfl
theorem Rq.c4 (h : Rq p A n cap L why pos at_ r y z w) : w.cell? ⟨p, 4, none⟩ = some (.int .i64 (z : Int)) := by rw [Lib.cell_of_heap h.blk]; rfl
theorem Rq.f (h : Rq p A n cap L why pos at_ r y z w) (i : Nat) : w.frozen? ⟨p, i, none⟩ = false := Lib.frozen_of_heap h.blk i
theorem Rq.but {K : List Nat} (h : Rq p A n cap L why pos at_ r y z w) (hb : But K w w') (hp : p ∉ K) (hA : ∀ ad, A = some ad → ad.block ∉ K) : Rq p A n cap L why pos at_ r y z w' :=
  ⟨hb.heap h.blk hp, h.says, h.bs.but hb hA, fun ad e => ⟨(h.apart ad e).1, Nat.lt_of_lt_of_le (h.apart ad e).2 hb.size⟩, h.inside, h.small⟩
theorem Rq.ev (h : Rq p A n cap L why pos at_ r y z w) (hb : Ev w w') : Rq p A n cap L why pos at_ r y z w' := h.but (But.of_ev (K := []) hb) (by simp) (by simp)
theorem Rqs.but {K : List Nat} (h : Rqs p A n cap L why pos w) (hb : But K w w') (hp : p ∉ K) (hA : ∀ ad, A = some ad → ad.block ∉ K) : Rqs p A n cap L why pos w' := by
  obtain ⟨a, b, c, d, h⟩ := h; exact ⟨a, b, c, d, h.but hb hp hA⟩
theorem Rqs.ev (h : Rqs p A n cap L why pos w) (hb : Ev w w') : Rqs p A n cap L why pos w' := h.but (But.of_ev (K := []) hb) (by simp) (by simp)
theorem Rqs.lt (h : Rqs p A n cap L why pos w) : p < w.heap.size := by obtain ⟨a, b, c, d, h⟩ := h; exact h.lt
theorem Rqs.apart (h : Rqs p A n cap L why pos w) : ∀ ad, A = some ad → ad.block ≠ p ∧ ad.block < w.heap.size := by obtain ⟨a, b, c, d, h⟩ := h; exact h.apart
theorem Rqs.inside (h : Rqs p A n cap L why pos w) (h0 : why = 0) : pos ≤ n := by obtain ⟨a, b, c, d, h⟩ := h; rw [← (h.says.no h0).2]; exact h.inside
theorem Rq.set (h : Rq p A n cap L why pos at_ r y z w) {why' pos' at' y' z' : Nat} {r' : Bool} (hw : Rc p A n cap at' r' y' z' w') (hs : Says why' pos' at' r' y' z') (hb : But [p] w w') (hi : at' ≤ n) : Rq p A n cap L why' pos' at' r' y' z' w' :=
  ⟨hw, hs, h.bs.but hb (fun ad e hm => (h.apart ad e).1 (by simpa using hm)), fun ad e => ⟨(h.apart ad e).1, Nat.lt_of_lt_of_le (h.apart ad e).2 hb.size⟩, hi, h.small⟩

set_option maxRecDepth 100000 in
theorem ref_refuse (e q : Nat) (w : World) (h : Rqs p A n cap L why pos w) (he : e ≠ 0) :
    Calls Try.prog 65 #[.pointer (some ⟨p, 0, none⟩), .int .i64 (e : Int), .int .i64 (q : Int)] w fun x w' => x = .returned (.tuple #[]) ∧ Rqs p A n cap L (rdStop why pos e q).1 (rdStop why pos e q).2 w' ∧ But [p] w w' := by
  obtain ⟨at_, r, y, z, h⟩ := h
  have h2 := h.c2; have h3 := h.c3; have h4 := h.c4
  have f2 := h.f 2; have f3 := h.f 3; have f4 := h.f 4
  by_cases hw : why = 0
  · obtain ⟨rfl, hat⟩ := h.says.no hw
    go_enter Try.func65, Try.ntmps65
    go_wp2
    go_end0
    have hb : But [p] w (((w.setCell ⟨p, 2, none⟩ (.bool true)).setCell ⟨p, 3, none⟩ (.int .i64 (e : Int))).setCell ⟨p, 4, none⟩ (.int .i64 (q : Int))) := ((But.setCell ⟨p, 2, none⟩ _ (by simp)).then (But.setCell ⟨p, 3, none⟩ _ (by simp))).then (But.setCell ⟨p, 4, none⟩ _ (by simp))
    refine ⟨by trivial, ⟨at_, true, e, q, h.set (set_heap 4 _ (set_heap 3 _ (set_heap 2 _ h.blk))) ?_ hb h.inside⟩, hb⟩
    simp only [rdStop, hw, if_true]
    exact ⟨fun c => absurd c he, fun _ => ⟨rfl, rfl, rfl⟩⟩
  · obtain ⟨rfl, hy, hz⟩ := h.says.yes hw
    go_enter Try.func65, Try.ntmps65
    go_wp2
    go_end0
    simp only [rdStop, hw, if_false]
    exact ⟨by trivial, ⟨at_, true, y, z, h⟩, But.refl _ _⟩

set_option maxRecDepth 100000 in
theorem ref_end (w : World) (h : Rqs p A n cap L why pos w) :
    Calls Try.prog 25 #[.pointer (some ⟨p, 0, none⟩)] w fun e w' => e = .returned (.tuple #[.int .i64 ((rdEnd L why pos).1 : Int), .int .i64 ((rdEnd L why pos).2 : Int)]) ∧ Ev w w' := by
  obtain ⟨at_, r, y, z, h⟩ := h
  have h0 := h.c0; have h1 := h.c1; have h2 := h.c2; have h3 := h.c3; have h4 := h.c4
  have hl := h.bs.len
  by_cases hw : why = 0
  · obtain ⟨rfl, rfl⟩ := h.says.no hw
    by_cases hp : at_ < L.length
    · have e : rdEnd L why at_ = (11, at_) := by simp [rdEnd, hw, hp]
      have hlt : (at_ : Int) < n := by omega
      rw [e]
      clear e hl
      go_enter Try.func25, Try.ntmps25
      go_wp2
      go_quiet (fail)
      go_wp2
      go_quiet (fail)
      go_wp2
      go_ret2
      exact ⟨rfl, (Ev.drewN _ _).trans (Ev.drewN _ _)⟩
    · have e : rdEnd L why at_ = (0, 0) := by simp [rdEnd, hw, hp]
      have hlt : ¬ ((at_ : Int) < n) := by omega
      rw [e]
      clear e hl
      go_enter Try.func25, Try.ntmps25
      go_wp2
      go_quiet (fail)
      go_wp2
      go_ret2
      exact ⟨rfl, Ev.of_drewN ⟨_, rfl⟩⟩
  · obtain ⟨rfl, rfl, rfl⟩ := h.says.yes hw
    have e : rdEnd L y z = (y, z) := by simp [rdEnd, hw]
    rw [e]
    clear e hl
    go_enter Try.func25, Try.ntmps25
    go_wp2
    go_quiet (fail)
    go_wp2
    go_ret2
    exact ⟨rfl, Ev.of_drewN ⟨_, rfl⟩⟩

set_option maxRecDepth 100000 in
theorem ref_fail (e : Nat) (w : World) (h : Rqs p A n cap L why pos w) (he : e ≠ 0) (hw : why = 0 ∨ True) :
    Calls Try.prog 68 #[.pointer (some ⟨p, 0, none⟩), .int .i64 (e : Int)] w fun x w' => x = .returned (.tuple #[]) ∧ Rqs p A n cap L (rdStop why pos e pos).1 (rdStop why pos e pos).2 w' ∧ But [p] w w' := by
  have HC := Lib.hid (fun q => ref_refuse e q w h he)
  obtain ⟨at_, r, y, z, h⟩ := h
  have h1 := h.c1
  have he' : ¬ ((e : Int) = 0) := by omega
  go_enter Try.func68, Try.ntmps68
  go_wp2_with (first | ((with_reducible refine (HC.out _).mono ?_); rintro x w' ⟨rfl, hR, hB⟩))
  go_end0
  refine ⟨by trivial, ?_, hB⟩
  have e1 : rdStop why pos e at_ = rdStop why pos e pos := by
    unfold rdStop
    by_cases h0 : why = 0
    · rw [(h.says.no h0).2]
    · simp [h0]
  rw [← e1]
  exact hR
end Go.Proofs.Ytkjodlngpdihhaa
