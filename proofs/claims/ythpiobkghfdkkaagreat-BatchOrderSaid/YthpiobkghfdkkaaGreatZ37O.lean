/-
  Texts that belong together: Package check: joins. Package check: what a plan's kids give, one behind the other. Package check: of: what a plan gives. Package check: Defs of a few tables. Package check: what repeated compares. Package check: the sort of a few tables.
-/
import Derived.StillTailTactics
import Derived.Test.YthpiobkghfdkkaaGreatZ35O
namespace Go.Proofs.YthpiobkghfdkkaaGreat
open Go.RowKit
set_option linter.unusedVariables false

end Go.Proofs.YthpiobkghfdkkaaGreat

namespace Go.Proofs.YthpiobkghfdkkaaGreat
open Go.RowKit
set_option linter.unusedVariables false

-- What is given has at most six columns.
end Go.Proofs.YthpiobkghfdkkaaGreat

namespace Go.Proofs.YthpiobkghfdkkaaGreat
open Go.RowKit
set_option linter.unusedVariables false

end Go.Proofs.YthpiobkghfdkkaaGreat

namespace Go.Proofs.YthpiobkghfdkkaaGreat
open Go.RowKit
set_option linter.unusedVariables false

def cmpS (s t : ByteArray) : Int := if Op.bytesLess s.toList t.toList then -1 else if s.toList == t.toList then 0 else 1
def cmpI (a b : Int) : Int := if a < b then -1 else if b < a then 1 else 0
theorem run_gtr_s (s t : ByteArray) (w : World) : (binOp .gtr 9 (.string s) (.string t)).run Tryz.prog w = .ok (.bool !(Op.bytesLess s.toList t.toList || s.toList == t.toList)) w := by
  unfold binOp
  simp [go_sem, Op.stringOp]

set_option maxRecDepth 100000 in
set_option maxHeartbeats 1600000 in
theorem cmp_str (s t : ByteArray) (w : World) : Calls Tryz.prog 125 #[.string s, .string t] w fun e w' => e = .returned (.int .i64 (cmpS s t)) ∧ w' = w := by
  have hG := run_gtr_s s t
  unfold cmpS
  cases h1 : Op.bytesLess s.toList t.toList with
  | true =>
    go_enter Tryz.func125, Tryz.ntmps125
    go_wp2
    go_ret
    exact ⟨rfl, rfl⟩
  | false =>
    cases h2 : s.toList == t.toList with
    | true =>
      simp only [h1, h2] at hG
      go_enter Tryz.func125, Tryz.ntmps125
      go_wp2
      go_ret
      exact ⟨rfl, rfl⟩
    | false =>
      simp only [h1, h2] at hG
      go_enter Tryz.func125, Tryz.ntmps125
      go_wp2
      go_ret
      exact ⟨rfl, rfl⟩
set_option maxRecDepth 100000 in
set_option maxHeartbeats 1600000 in
theorem cmp_int (a b : Int) (w : World) : Calls Tryz.prog 126 #[.int .i64 a, .int .i64 b] w fun e w' => e = .returned (.int .i64 (cmpI a b)) ∧ w' = w := by
  unfold cmpI
  by_cases h1 : a < b
  · rw [if_pos h1]
    go_enter Tryz.func126, Tryz.ntmps126
    go_wp2
    go_ret
    exact ⟨rfl, rfl⟩
  · rw [if_neg h1]
    by_cases h2 : b < a
    · rw [if_pos h2]
      go_enter Tryz.func126, Tryz.ntmps126
      go_wp2
      go_ret
      exact ⟨rfl, rfl⟩
    · rw [if_neg h2]
      go_enter Tryz.func126, Tryz.ntmps126
      go_wp2
      go_ret
      exact ⟨rfl, rfl⟩
def or2 (x y : Int) : Int := if x = 0 then y else x
set_option maxRecDepth 100000 in
set_option maxHeartbeats 1600000 in
theorem cmp_or (g : Nat) (x y : Int) (w : World) (h : Bx 3 g #[.int .i64 x, .int .i64 y] w) : Calls Tryz.prog 124 #[.slice (some ⟨g, 0, none⟩) 2 2] w fun e w' => e = .returned (.int .i64 (or2 x y)) ∧ w' = w := by
  have c0 := h.cell 0
  have c1 := h.cell 1
  have c0 : w.cell? ⟨g, 0, none⟩ = some (.int .i64 x) := c0
  have c1 : w.cell? ⟨g, 1, none⟩ = some (.int .i64 y) := c1
  clear h
  unfold or2
  by_cases hx : x = 0
  · subst hx
    rw [if_pos rfl]
    by_cases hy : y = 0
    · subst hy
      go_enter Tryz.func124, Tryz.ntmps124
      go_wp2
      refine wp_loop_rounds 3 ?_
      rw [rounds_succ]
      go_wp2
      rw [rounds_succ]
      go_wp2
      rw [rounds_succ]
      go_wp2
      go_ret
      exact ⟨rfl, rfl⟩
    · have hyn : (y == 0) = false := by simpa using hy
      go_enter Tryz.func124, Tryz.ntmps124
      go_wp2
      refine wp_loop_rounds 3 ?_
      rw [rounds_succ]
      go_wp2
      rw [rounds_succ]
      go_wp2
      go_ret
      exact ⟨rfl, rfl⟩
  · have hxn : (x == 0) = false := by simpa using hx
    rw [if_neg hx]
    go_enter Tryz.func124, Tryz.ntmps124
    go_wp2
    refine wp_loop_rounds 3 ?_
    rw [rounds_succ]
    go_wp2
    go_ret
    exact ⟨rfl, rfl⟩
end Go.Proofs.YthpiobkghfdkkaaGreat

namespace Go.Proofs.YthpiobkghfdkkaaGreat
open Go.RowKit
set_option linter.unusedVariables false

def IntsF2 (x y : Int) (v : Value) (w : World) : Prop := ∃ g, v = .slice (some ⟨g, 0, none⟩) 2 2 ∧ Bx 3 g #[.int .i64 x, .int .i64 y] w
theorem IntsF2.mono (x y : Int) : Mono (IntsF2 x y) := fun v w w' hE ⟨g, e, h⟩ => ⟨g, e, h.ev hE⟩
def cmpD (di dj : DM) (i j : Nat) : Int := or2 (cmpS ⟨di.name.toArray⟩ ⟨dj.name.toArray⟩) (cmpI (i : Int) (j : Int))

set_option maxRecDepth 100000 in
set_option maxHeartbeats 6400000 in
theorem rep_cmp (gb bd od n cap : Nat) (l : List DM) (i j : Nat) (di dj : DM) (w : World) (hB : Bx 133 gb #[.slice (some ⟨bd, od, none⟩) n cap] w) (h : DsAt w (some ⟨bd, od, none⟩) n cap l) (hi : l[i]? = some di) (hj : l[j]? = some dj) :
    Calls Tryz.prog 123 #[.int .i64 (i : Int), .int .i64 (j : Int), .pointer (some ⟨gb, 0, none⟩)] w fun e w' => e = .returned (.int .i64 (cmpD di dj i j)) ∧ Ev w w' := by
  have hmix : Tryz.prog.follows .mixedOrders = true := by kernel_rfl
  have HB : w.cell? ⟨gb, 0, none⟩ = some (.slice (some ⟨bd, od, none⟩) n cap) := hB.cell 0
  have hgl := hB.lt
  have hnl := h.sl.len
  have hnc := h.sl.le
  have hcm := h.sl.max
  obtain ⟨b, o, e, hbl, ci, _⟩ := h.cell hi
  obtain ⟨b', o', e', _, cj, _⟩ := h.cell hj
  injection e with e
  injection e with e1 e2 _
  injection e' with e'
  injection e' with e3 e4 _
  subst e1; subst e2; subst e3; subst e4
  have hil := (List.getElem?_eq_some_iff.1 hi).1
  have hjl := (List.getElem?_eq_some_iff.1 hj).1
  have i1 : (0 : Int) ≤ (i : Int) := by omega
  have i2 : (i : Int) < (n : Int) := by omega
  have j1 : (0 : Int) ≤ (j : Int) := by omega
  have j2 : (j : Int) < (n : Int) := by omega
  unfold cmpD
  clear hB h hi hj hil hjl
  go_enter Tryz.func123, Tryz.ntmps123
  go_upto_region 1 with fail
  refine wp_region_slots hmix [fun v _ => v = .slice (some ⟨bd, od, none⟩) n cap, fun v _ => v = .int .i64 (i : Int), fun v _ => v = .pointer (some ⟨bd, od + i * 2, none⟩), fun v _ => v = .pointer (some ⟨bd, od + i * 2, none⟩), fun v _ => v = .string ⟨di.name.toArray⟩, fun v _ => v = .slice (some ⟨bd, od, none⟩) n cap, fun v _ => v = .int .i64 (j : Int), fun v _ => v = .pointer (some ⟨bd, od + j * 2, none⟩), fun v _ => v = .pointer (some ⟨bd, od + j * 2, none⟩), fun v _ => v = .string ⟨dj.name.toArray⟩, fun v _ => v = .int .i64 (cmpS ⟨di.name.toArray⟩ ⟨dj.name.toArray⟩), fun v _ => v = .int .i64 (i : Int), fun v _ => v = .int .i64 (j : Int), fun v _ => v = .int .i64 (cmpI (i : Int) (j : Int)), IntsF2 (cmpS ⟨di.name.toArray⟩ ⟨dj.name.toArray⟩) (cmpI (i : Int) (j : Int)), fun v _ => v = .int .i64 (or2 (cmpS ⟨di.name.toArray⟩ ⟨dj.name.toArray⟩) (cmpI (i : Int) (j : Int))), fun v _ => v = .int .i64 (or2 (cmpS ⟨di.name.toArray⟩ ⟨dj.name.toArray⟩) (cmpI (i : Int) (j : Int)))]
    22 rfl (by kernel_rfl) ⟨mono_eq _, mono_eq _, mono_eq _, mono_eq _, mono_eq _, mono_eq _, mono_eq _, mono_eq _, mono_eq _, mono_eq _, mono_eq _, mono_eq _, mono_eq _, mono_eq _, IntsF2.mono _ _, mono_eq _, mono_eq _, trivial⟩ ?_ ?_
  · refine ops_cons 0 ?_ (ops_cons 1 ?_ (ops_cons 2 ?_ (ops_cons 3 ?_ (ops_cons 4 ?_ (ops_cons 5 ?_ (ops_cons 6 ?_ (ops_cons 7 ?_ (ops_cons 8 ?_ (ops_cons 9 ?_ (ops_cons 10 ?_ (ops_cons 11 ?_ (ops_cons 12 ?_ (ops_cons 13 ?_ (ops_cons 14 ?_ (ops_cons 15 ?_ (ops_cons 16 ?_ (ops_nil 17)))))))))))))))))
    · refine op_value fun a w c => ⟨(wanted_plain rfl), .slice (some ⟨bd, od, none⟩) n cap, ?_, rfl⟩
      have e2 : a.eval (.tmp 2) = .pointer (some ⟨gb, 0, none⟩) := (c.was 2 (by kernel_rfl) rfl)
      have hc := (c.ev.cell (p := ⟨gb, 0, none⟩) hgl).trans HB
      generalize a.eval = ρ at e2 ⊢
      simp [execOp, e2, hc, go_sem]
    · refine op_value fun a w c => ⟨(wanted_plain rfl), _, run_move _ rfl w, (c.was 0 (by kernel_rfl) rfl)⟩
    · refine op_value fun a wq c => ⟨(wanted_plain rfl), .pointer (some ⟨bd, od + i * 2, none⟩), ?_, rfl⟩
      have e_0 : a.eval (.tmp 6) = .slice (some ⟨bd, od, none⟩) n cap := (c.new 0 6 (by kernel_rfl) (by kernel_rfl))
      have e_1 : a.eval (.tmp 7) = .int .i64 (i : Int) := (c.new 1 7 (by kernel_rfl) (by kernel_rfl))
      generalize a.eval = ρ at e_0 e_1 ⊢
      simp [execOp, e_0, e_1, go_sem, i1, i2]
    · refine op_value fun a w c => ⟨(wanted_plain rfl), .pointer (some ⟨bd, od + i * 2, none⟩), ?_, rfl⟩
      have e8 : a.eval (.tmp 8) = .pointer (some ⟨bd, od + i * 2, none⟩) := (c.new 2 8 (by kernel_rfl) (by kernel_rfl))
      generalize a.eval = ρ at e8 ⊢
      simp [execOp, e8, go_sem]
    · refine op_value fun a w c => ⟨(wanted_plain rfl), .string ⟨di.name.toArray⟩, ?_, rfl⟩
      have e9 : a.eval (.tmp 9) = .pointer (some ⟨bd, od + i * 2, none⟩) := (c.new 3 9 (by kernel_rfl) (by kernel_rfl))
      have hc := (c.ev.cell (p := ⟨bd, od + i * 2, none⟩) hbl).trans ci
      generalize a.eval = ρ at e9 ⊢
      simp [execOp, e9, hc, go_sem]
    · refine op_value fun a w c => ⟨(wanted_plain rfl), .slice (some ⟨bd, od, none⟩) n cap, ?_, rfl⟩
      have e2 : a.eval (.tmp 2) = .pointer (some ⟨gb, 0, none⟩) := (c.was 2 (by kernel_rfl) rfl)
      have hc := (c.ev.cell (p := ⟨gb, 0, none⟩) hgl).trans HB
      generalize a.eval = ρ at e2 ⊢
      simp [execOp, e2, hc, go_sem]
    · refine op_value fun a w c => ⟨(wanted_plain rfl), _, run_move _ rfl w, (c.was 1 (by kernel_rfl) rfl)⟩
    · refine op_value fun a wq c => ⟨(wanted_plain rfl), .pointer (some ⟨bd, od + j * 2, none⟩), ?_, rfl⟩
      have e_0 : a.eval (.tmp 11) = .slice (some ⟨bd, od, none⟩) n cap := (c.new 5 11 (by kernel_rfl) (by kernel_rfl))
      have e_1 : a.eval (.tmp 12) = .int .i64 (j : Int) := (c.new 6 12 (by kernel_rfl) (by kernel_rfl))
      generalize a.eval = ρ at e_0 e_1 ⊢
      simp [execOp, e_0, e_1, go_sem, j1, j2]
    · refine op_value fun a w c => ⟨(wanted_plain rfl), .pointer (some ⟨bd, od + j * 2, none⟩), ?_, rfl⟩
      have e13 : a.eval (.tmp 13) = .pointer (some ⟨bd, od + j * 2, none⟩) := (c.new 7 13 (by kernel_rfl) (by kernel_rfl))
      generalize a.eval = ρ at e13 ⊢
      simp [execOp, e13, go_sem]
    · refine op_value fun a w c => ⟨(wanted_plain rfl), .string ⟨dj.name.toArray⟩, ?_, rfl⟩
      have e14 : a.eval (.tmp 14) = .pointer (some ⟨bd, od + j * 2, none⟩) := (c.new 8 14 (by kernel_rfl) (by kernel_rfl))
      have hc := (c.ev.cell (p := ⟨bd, od + j * 2, none⟩) hbl).trans cj
      generalize a.eval = ρ at e14 ⊢
      simp [execOp, e14, hc, go_sem]
    · refine op_call fun a wq c => ⟨(wanted_plain rfl), 125, #[.string ⟨di.name.toArray⟩, .string ⟨dj.name.toArray⟩], ?_, ?_⟩
      · rw [run_call 125 _ _ rfl (by kernel_rfl)]
        have e_0 : a.eval (.tmp 10) = .string ⟨di.name.toArray⟩ := (c.new 4 10 (by kernel_rfl) (by kernel_rfl))
        have e_1 : a.eval (.tmp 15) = .string ⟨dj.name.toArray⟩ := (c.new 9 15 (by kernel_rfl) (by kernel_rfl))
        simp [e_0, e_1]
      · refine (cmp_str _ _ wq).mono ?_
        rintro e wp ⟨rfl, rfl⟩
        exact ⟨_, rfl, Ev.refl _, rfl⟩
    · refine op_value fun a w c => ⟨(wanted_plain rfl), _, run_move _ rfl w, (c.was 0 (by kernel_rfl) rfl)⟩
    · refine op_value fun a w c => ⟨(wanted_plain rfl), _, run_move _ rfl w, (c.was 1 (by kernel_rfl) rfl)⟩
    · refine op_call fun a wq c => ⟨(wanted_plain rfl), 126, #[.int .i64 (i : Int), .int .i64 (j : Int)], ?_, ?_⟩
      · rw [run_call 126 _ _ rfl (by kernel_rfl)]
        have e_0 : a.eval (.tmp 17) = .int .i64 (i : Int) := (c.new 11 17 (by kernel_rfl) (by kernel_rfl))
        have e_1 : a.eval (.tmp 18) = .int .i64 (j : Int) := (c.new 12 18 (by kernel_rfl) (by kernel_rfl))
        simp [e_0, e_1]
      · refine (cmp_int _ _ wq).mono ?_
        rintro e wp ⟨rfl, rfl⟩
        exact ⟨_, rfl, Ev.refl _, rfl⟩
    · refine op_makes fun a wq c => ?_
      have e_0 : a.eval (.tmp 16) = .int .i64 (cmpS ⟨di.name.toArray⟩ ⟨dj.name.toArray⟩) := (c.new 10 16 (by kernel_rfl) (by kernel_rfl))
      have e_1 : a.eval (.tmp 19) = .int .i64 (cmpI (i : Int) (j : Int)) := (c.new 13 19 (by kernel_rfl) (by kernel_rfl))
      refine ⟨(wanted_plain rfl), .slice (some ⟨wq.heap.size, 0, none⟩) 2 2, wq.alloc (.cells #[.int .i64 (cmpS ⟨di.name.toArray⟩ ⟨dj.name.toArray⟩), .int .i64 (cmpI (i : Int) (j : Int))] 3), ?_, Ev.alloc _ _, ⟨wq.heap.size, rfl, Bx.new _ _ _⟩⟩
      generalize a.eval = ρ at e_0 e_1 ⊢
      simp [execOp, e_0, e_1, go_sem]
    · refine op_call fun a wq c => ?_
      obtain ⟨g_, eg_, hB_⟩ := (c.got 14 20 (by kernel_rfl) (by kernel_rfl) rfl : IntsF2 _ _ _ _)
      refine ⟨(wanted_plain rfl), 124, #[.slice (some ⟨g_, 0, none⟩) 2 2], ?_, ?_⟩
      · rw [run_call 124 _ _ rfl (by kernel_rfl)]
        simp [eg_]
      · refine (cmp_or g_ _ _ wq hB_).mono ?_
        rintro e wp ⟨rfl, rfl⟩
        exact ⟨_, rfl, Ev.refl _, rfl⟩
    · refine op_value fun a w c => ⟨(wanted_plain rfl), _, run_assign _ rfl w, (c.new 15 21 (by kernel_rfl) (by kernel_rfl))⟩
  intro s w2 hE hold hnew
  have f0 : s 0 = .int .i64 (i : Int) := hold 0 (by kernel_rfl)
  have f1 : s 1 = .int .i64 (j : Int) := hold 1 (by kernel_rfl)
  have f2 : s 2 = .pointer (some ⟨gb, 0, none⟩) := hold 2 (by kernel_rfl)
  have f5 : s 5 = .int .i64 (or2 (cmpS ⟨di.name.toArray⟩ ⟨dj.name.toArray⟩) (cmpI (i : Int) (j : Int))) := hnew 16 5 (by kernel_rfl)
  have f6 : s 6 = .slice (some ⟨bd, od, none⟩) n cap := hnew 0 6 (by kernel_rfl)
  have f7 : s 7 = .int .i64 (i : Int) := hnew 1 7 (by kernel_rfl)
  have f8 : s 8 = .pointer (some ⟨bd, od + i * 2, none⟩) := hnew 2 8 (by kernel_rfl)
  have f9 : s 9 = .pointer (some ⟨bd, od + i * 2, none⟩) := hnew 3 9 (by kernel_rfl)
  have f10 : s 10 = .string ⟨di.name.toArray⟩ := hnew 4 10 (by kernel_rfl)
  have f11 : s 11 = .slice (some ⟨bd, od, none⟩) n cap := hnew 5 11 (by kernel_rfl)
  have f12 : s 12 = .int .i64 (j : Int) := hnew 6 12 (by kernel_rfl)
  have f13 : s 13 = .pointer (some ⟨bd, od + j * 2, none⟩) := hnew 7 13 (by kernel_rfl)
  have f14 : s 14 = .pointer (some ⟨bd, od + j * 2, none⟩) := hnew 8 14 (by kernel_rfl)
  have f15 : s 15 = .string ⟨dj.name.toArray⟩ := hnew 9 15 (by kernel_rfl)
  have f16 : s 16 = .int .i64 (cmpS ⟨di.name.toArray⟩ ⟨dj.name.toArray⟩) := hnew 10 16 (by kernel_rfl)
  have f17 : s 17 = .int .i64 (i : Int) := hnew 11 17 (by kernel_rfl)
  have f18 : s 18 = .int .i64 (j : Int) := hnew 12 18 (by kernel_rfl)
  have f19 : s 19 = .int .i64 (cmpI (i : Int) (j : Int)) := hnew 13 19 (by kernel_rfl)
  have f21 : s 21 = .int .i64 (or2 (cmpS ⟨di.name.toArray⟩ ⟨dj.name.toArray⟩) (cmpI (i : Int) (j : Int))) := hnew 15 21 (by kernel_rfl)
  change Exit.then _ _ .normal ⟨#[s 0, s 1, s 2, s 3, s 4, s 5, s 6, s 7, s 8, s 9, s 10, s 11, s 12, s 13, s 14, s 15, s 16, s 17, s 18, s 19, s 20, s 21], _⟩ _
  simp only [f0, f1, f2, f5, f6, f7, f8, f9, f10, f11, f12, f13, f14, f15, f16, f17, f18, f19, f21]
  go_wp2
  go_ret
  exact ⟨rfl, hE⟩
end Go.Proofs.YthpiobkghfdkkaaGreat

namespace Go.Proofs.YthpiobkghfdkkaaGreat
open Go.RowKit
set_option linter.unusedVariables false

theorem run_callv {a : Act} {o : Oper} (f : FuncId) (cb : Array Value) (x : Operand) (xs : Array Operand) (ts : Array TypeId) (ho : o.op = .call { callee := .value x, args := xs, argTypes := ts }) (h : bodied Tryz.prog f = true) (hx : a.eval x = .func (.func f) #[] cb) (w : World) :
    (execOp a.eval o).run Tryz.prog w = .ok (.enter f (xs.map a.eval ++ cb)) w := by
  unfold execOp
  rw [ho]
  simp [resolve, Deferred.ofValue, invoke, hx]
  exact run_enter h _ w

end Go.Proofs.YthpiobkghfdkkaaGreat
