/-
  Texts that belong together: Package sexp: Print of what is no tree; Print of whatever was read.
-/
import Derived.Test.YtojbahjebfcmgaaGreatDoorZ23W
import Derived.Test.YtojbahjebfcmgaaGreatDoorZ19W
namespace Go.Proofs.YtojbahjebfcmgaaGreatDoor
open Go.RowKit
set_option linter.unusedVariables false

set_option maxRecDepth 100000 in
set_option maxHeartbeats 2000000 in
theorem builder_string0 (b : Nat) (p : Value) (w : World) (hbk : w.heap[b]? = some (.cells #[p, .slice none 0 0] 149 (0, 0))) :
    Calls Tryz.prog 108 #[.pointer (some ⟨b, 0, none⟩)] w fun e w' => e = .returned (.string ⟨#[]⟩) ∧ Ev w w' := by
  have mixed : Tryz.prog.follows .mixedOrders = true := by kernel_rfl
  have hUS : ∀ (W : World) (q : Option Addr), (Builtin.unsafeString_ #[214, 3] 9 #[.pointer q, .int .i64 0]).run Tryz.prog W = .ok (.string .empty) W := fun W q => Lib.run_unsafeString_none W _ _ _ q
  have c1 : w.drew.cell? ⟨b, 1, none⟩ = some (.slice none 0 0) := by
    have : w.drew.heap[b]? = some (.cells #[p, .slice none 0 0] 149 (0, 0)) := hbk
    rw [Lib.cell_of_heap this]; rfl
  have hSD : (Builtin.unsafeSliceData_ #[139] 214 #[.slice none 0 0]).run Tryz.prog w.drew = .ok (.pointer none) w.drew := rfl
  go_enter Tryz.func108, Tryz.ntmps108
  go_wp2
  go_region_o
  all_goals (go_wp2; go_ret; exact ⟨rfl, Ev.drew _⟩)

set_option maxRecDepth 100000 in
set_option maxHeartbeats 2000000 in
theorem sx_write0 (m : M) (hk : m.kind = 0) (b : Nat) (w : World) :
    Calls Tryz.prog 107 #[.pointer (some ⟨b, 0, none⟩), .agg #[.int .i64 m.kind, .string ⟨m.s.toArray⟩, .int .i64 m.n, .slice m.A m.kids.length m.cap, .int .i64 (m.pos : Int)]] w fun e w' => e = .returned (.tuple #[]) ∧ Ev w w' := by
  rw [hk]
  go_enter Tryz.func107, Tryz.ntmps107
  go_wp2
  go_end0
  exact ⟨rfl, Ev.alloc _ _⟩

set_option maxRecDepth 100000 in
set_option maxHeartbeats 4000000 in
theorem sx_print0 {w0 : World} {b0 : Nat} {m : M} (h : Lies b0 [] w0 m) (hk : m.kind = 0) (hsz : m.t.size ≤ 100000) :
    Calls Tryz.prog 59 #[.agg #[.int .i64 m.kind, .string ⟨m.s.toArray⟩, .int .i64 m.n, .slice m.A m.kids.length m.cap, .int .i64 (m.pos : Int)]] w0 fun r w'' => r = .returned (.string ⟨#[]⟩) ∧ Ev w0 w'' := by
  have HE := Lib.hid (fun wa (hE : Ev w0 wa) => sx_hasEnd m b0 wa (h.ev hE) hsz)
  have HW := Lib.hid (fun b wa => sx_write0 m hk b wa)
  have HS := Lib.hid (fun b wa (hb : Bx 149 b #[.pointer none, .slice none 0 0] wa) => builder_string0 b (.pointer none) wa hb.blk)
  have hc1 := h.ms.le
  have hc2 := h.ms.max
  clear hk hsz
  go_enter Tryz.func59, Tryz.ntmps59
  go_wp2_with (first
    | ((with_reducible refine (HE.out _ (Ev.alloc _ _)).mono ?_); rintro r w1 ⟨rfl, hE1⟩; obtain ⟨c0, c1, c2, c3, c4⟩ := box_cells (box_ev (tree_box w0 m) (hE1.trans (Ev.alloc w1 (.cells #[.pointer none, .slice none 0 0] 149)))); have B1 := Bx.new 149 #[.pointer none, .slice none 0 0] w1)
    | ((with_reducible refine (HW.out _ _).mono ?_); rintro r w2 ⟨rfl, hE2⟩; replace B1 := B1.ev hE2)
    | ((with_reducible refine (HS.out _ _ B1).mono ?_); rintro r w4 ⟨rfl, hE4⟩))
  go_ret
  exact ⟨rfl, ((((Ev.alloc _ _).trans hE1).trans (Ev.alloc _ _)).trans hE2).trans hE4⟩
/-- Print, whatever the tree. -/
theorem sx_printAny {w0 : World} (hT : Tab w0) {b0 : Nat} {m : M} (h : Lies b0 [] w0 m) (hsz : m.t.size ≤ 100000) (hlen : (printS m.t).length ≤ 1000000) (hne : printS m.t ≠ [] ∨ m.kind = 0) (hfit : fitsS m.t = true) :
    Calls Tryz.prog 59 #[.agg #[.int .i64 m.kind, .string ⟨m.s.toArray⟩, .int .i64 m.n, .slice m.A m.kids.length m.cap, .int .i64 (m.pos : Int)]] w0 fun r w'' => r = .returned (.string ⟨(printS m.t).toArray⟩) ∧ Ev w0 w'' := by
  by_cases hk : m.kind = 0
  · have hp : printS m.t = [] := by
      rw [M.t_eq, hk]
      unfold printS
      simp
    rw [hp]
    exact sx_print0 h hk hsz
  · rcases hne with hne | hne
    · exact sx_print hT h hlen hne hfit (fun w' hE => sx_hasEnd m b0 w' (h.ev hE) hsz)
    · exact absurd hne hk
end Go.Proofs.YtojbahjebfcmgaaGreatDoor
