/-
  Texts that belong together: The walk of SexpDeep. The document's own Read.
-/
import Derived.Deep.DeepCutAuto
import Derived.Test.YtojbahjebfcmgaaGreatDoorZ15W
import Derived.Test.YtojbahjebfcmgaaGreatDoorZ16W
namespace Go.Proofs.YtojbahjebfcmgaaGreatDoor
open Go.RowKit
set_option linter.unusedVariables false

theorem sx_cat (a b : By) : (⟨a.toArray⟩ : ByteArray) ++ ⟨b.toArray⟩ = ⟨(a ++ b).toArray⟩ := by
  apply toList_inj
  simp [Lib.toList_data]
theorem sx_size (l : By) : (⟨l.toArray⟩ : ByteArray).size = l.length := rfl
/-- The tree in its box, while one steps down. -/
structure DpSt (w : World) (g : Nat) (m : M) (wr : World) : Prop where
  box : wr.heap[g]? = some (.cells (mc m).toArray 67 (0, 0))
  lies : Lies 0 [g] wr m
  ev : Ev w wr
  base : w.heap.size ≤ g
theorem DpSt.cs {w : World} {g : Nat} {m : M} {wr : World} (h : DpSt w g m wr) : wr.cell? ⟨g, 0, none⟩ = some (.int .i64 m.kind) ∧ wr.cell? ⟨g, 1, none⟩ = some (.string ⟨m.s.toArray⟩) ∧ wr.cell? ⟨g, 2, none⟩ = some (.int .i64 m.n) ∧ wr.cell? ⟨g, 3, none⟩ = some (.slice m.A m.kids.length m.cap) ∧ wr.cell? ⟨g, 4, none⟩ = some (.int .i64 (m.pos : Int)) ∧
    wr.frozen? ⟨g, 0, none⟩ = false ∧ wr.frozen? ⟨g, 1, none⟩ = false ∧ wr.frozen? ⟨g, 2, none⟩ = false ∧ wr.frozen? ⟨g, 3, none⟩ = false ∧ wr.frozen? ⟨g, 4, none⟩ = false := by
  refine ⟨?_, ?_, ?_, ?_, ?_, Lib.frozen_of_heap h.box 0, Lib.frozen_of_heap h.box 1, Lib.frozen_of_heap h.box 2, Lib.frozen_of_heap h.box 3, Lib.frozen_of_heap h.box 4⟩ <;> (rw [Lib.cell_of_heap h.box]; rfl)
theorem DpSt.down {w : World} {g : Nat} {m k0 : M} {wr : World} (h : DpSt w g m wr) (hk : m.kids = [k0]) : DpSt w g k0 (trSet g k0.kind k0.n k0.pos ⟨k0.s.toArray⟩ (.slice k0.A k0.kids.length k0.cap) wr) := by
  have hl := h.lies.kid k0 (by rw [hk]; exact List.mem_cons_self ..)
  refine ⟨?_, hl.move (trSet_but _ _ _ _ _ _ _) (fun x hx => .inl hx), h.ev.over1 (trSet_but _ _ _ _ _ _ _) h.base, h.base⟩
  have := set_heap 4 (.int .i64 (k0.pos : Int)) (set_heap 3 (.slice k0.A k0.kids.length k0.cap) (set_heap 2 (.int .i64 k0.n) (set_heap 1 (.string ⟨k0.s.toArray⟩) (set_heap 0 (.int .i64 k0.kind) h.box))))
  rwa [show ((((((mc m).toArray).setIfInBounds 0 (.int .i64 k0.kind)).setIfInBounds 1 (.string ⟨k0.s.toArray⟩)).setIfInBounds 2 (.int .i64 k0.n)).setIfInBounds 3 (.slice k0.A k0.kids.length k0.cap)).setIfInBounds 4 (.int .i64 (k0.pos : Int)) = (mc k0).toArray by simp [mc, M.kv]] at this
end Go.Proofs.YtojbahjebfcmgaaGreatDoor

namespace Go.Proofs.YtojbahjebfcmgaaGreatDoor
open Go.RowKit
set_option linter.unusedVariables false

end Go.Proofs.YtojbahjebfcmgaaGreatDoor
