/-
  Texts that belong together: The book: two lists of expressions that are alike are told to be so.
-/
import Derived.Test.YtnljagmpeifikaaDoorZ15B
import Derived.Test.YtnljagmpeifikaaDoorZ0B
import Derived.Test.YtnljagmpeifikaaDoorZ14B
namespace Go.Proofs.YtnljagmpeifikaaDoor
open Go.RowKit
set_option linter.unusedVariables false

/-- What Exprs gives for lists that are alike, no deeper than N. -/
def ExAt (N : Nat) : Prop := ∀ (l l' : List M) (b0 b1 : Nat) (w : World) (A : Option Addr) (n cap : Nat) (B : Option Addr) (cap' : Nat), M.deps l ≤ N → l.map M.t = l'.map M.t → Es w A n cap l → Es w B n cap' l' → (∀ x ∈ l, Lx b0 [] w x) → (∀ x ∈ l', Lx b1 [] w x) →
  Calls Tryd.prog 8 #[.slice A n cap, .slice B n cap'] w fun e w' => e = .returned (.bool true) ∧ Ev w w'
theorem alike_at {x y : M} (h : x.t = y.t) : y.kind = x.kind ∧ y.s = x.s ∧ y.n = x.n ∧ y.kids.length = x.kids.length ∧ x.kids.map M.t = y.kids.map M.t := by
  rw [M.t_eq, M.t_eq y] at h
  injection h with h1 h2 h3 h4 h5
  have h6 := congrArg List.length h4
  rw [List.length_map, List.length_map] at h6
  exact ⟨h1.symm, h2.symm, h3.symm, h6.symm, h4⟩

set_option maxRecDepth 100000 in
set_option maxHeartbeats 8000000 in
theorem keep_exprs_step (N : Nat) (ih : ∀ K, K < N → ExAt K) : ExAt N := by
  intro l l' b0 b1 w A n cap B cap' hd hll hA hB hxl hyl
  have hc1 := hA.le
  have hc2 := hA.max
  have hc3 := hB.le
  have hc4 := hB.max
  have HA := Lib.hid hA
  have HB := Lib.hid hB
  have HXL := Lib.hid hxl
  have HYL := Lib.hid hyl
  have HLL := Lib.hid hll
  have HD := Lib.hid hd
  unfold ExAt at ih
  have HIH := Lib.hid ih
  have hmix : Tryd.prog.follows .mixedOrders = true := by kernel_rfl
  clear ih hd hll hA hB hxl hyl
  go_enter Tryd.func8, Tryd.ntmps8
  go_wp2
  go_loopw [5] (fun iv wr => ∃ q : Nat, q ≤ n ∧ iv = .int .i64 (q : Int) ∧ Ev w wr) (fun iv _ => n - (intOf iv).toNat)
  case atStart => exact ⟨0, Nat.zero_le _, rfl, Ev.refl _⟩
  case round =>
    obtain ⟨q, hq, rfl, hE⟩ := hrel
    by_cases hlt : q < n
    · obtain ⟨x, hx⟩ := HA.out.at hlt
      obtain ⟨y, hy⟩ := HB.out.at hlt
      have hxy : x.t = y.t := by
        have h1 : (l.map M.t)[q]? = some x.t := by rw [List.getElem?_map, hx]; rfl
        rw [HLL.out, List.getElem?_map, hy] at h1
        exact (Option.some.inj h1).symm
      obtain ⟨h1, h2, h3, h4, h5⟩ := alike_at hxy
      obtain ⟨b, off, rfl, hbl, e0, e1, e2, e3⟩ := Es.cell (HA.out.ev hE) hx
      obtain ⟨b', off', rfl, hbl', g0, g1, g2, g3⟩ := Es.cell (HB.out.ev hE) hy
      unfold M.kv at e3 g3
      rw [h1] at g0
      rw [h2] at g1
      rw [h3] at g2
      rw [h4] at g3
      have hxm := List.mem_of_getElem? hx
      have hym := List.mem_of_getElem? hy
      have HPx := Lib.hid (fun w1 (h1 : Ev wr w1) => HIH.out (M.deps x.kids) (by have := M.dep_kid l x hxm; have := M.dep_eq x; have := HD.out; omega) x.kids y.kids b0 b1 w1 x.A x.kids.length x.cap y.A y.cap (Nat.le_refl _) h5 ((HXL.out x hxm).es.ev (hE.trans h1)) (by rw [← h4]; exact (HYL.out y hym).es.ev (hE.trans h1)) (fun z hz => ((HXL.out x hxm).kid z hz).ev (hE.trans h1)) (fun z hz => ((HYL.out y hym).kid z hz).ev (hE.trans h1)))
      have j1 : (0 : Int) ≤ (q : Int) := by omega
      have j2 : (q : Int) < (n : Int) := by omega
      clear hx hy hxy h1 h2 h3 h5 hxm hym
      generalize hxn : x.kids.length = xn at *
      clear h4 hxn
      generalize x.A = xA at *
      generalize y.A = yA at *
      generalize x.cap = xc at *
      generalize y.cap = yc at *
      generalize x.kind = xk at *
      generalize x.s = xs at *
      generalize x.n = xv at *
      go_wp2_with fail
      refine wp_region_slots hmix [fun v _ => v = .slice (some ⟨b, off, none⟩) n cap, fun v _ => v = .int .i64 (q : Int), fun v _ => v = .pointer (some ⟨b, off + q * 4, none⟩), fun v _ => v = .pointer (some ⟨b, off + q * 4, none⟩), fun v _ => v = .int .i64 xk, fun v _ => v = .slice (some ⟨b', off', none⟩) n cap', fun v _ => v = .int .i64 (q : Int), fun v _ => v = .pointer (some ⟨b', off' + q * 4, none⟩), fun v _ => v = .pointer (some ⟨b', off' + q * 4, none⟩), fun v _ => v = .int .i64 xk, fun v _ => v = .bool false, fun v _ => v = .bool false, fun v _ => v = .slice (some ⟨b, off, none⟩) n cap, fun v _ => v = .int .i64 (q : Int), fun v _ => v = .pointer (some ⟨b, off + q * 4, none⟩), fun v _ => v = .pointer (some ⟨b, off + q * 4 + 1, none⟩), fun v _ => v = .string ⟨xs.toArray⟩, fun v _ => v = .slice (some ⟨b', off', none⟩) n cap', fun v _ => v = .int .i64 (q : Int), fun v _ => v = .pointer (some ⟨b', off' + q * 4, none⟩), fun v _ => v = .pointer (some ⟨b', off' + q * 4 + 1, none⟩), fun v _ => v = .string ⟨xs.toArray⟩, fun v _ => v = .bool false, fun v _ => v = .bool false, fun v _ => v = .bool false, fun v _ => v = .slice (some ⟨b, off, none⟩) n cap, fun v _ => v = .int .i64 (q : Int), fun v _ => v = .pointer (some ⟨b, off + q * 4, none⟩), fun v _ => v = .pointer (some ⟨b, off + q * 4 + 2, none⟩), fun v _ => v = .int .i64 xv, fun v _ => v = .slice (some ⟨b', off', none⟩) n cap', fun v _ => v = .int .i64 (q : Int), fun v _ => v = .pointer (some ⟨b', off' + q * 4, none⟩), fun v _ => v = .pointer (some ⟨b', off' + q * 4 + 2, none⟩), fun v _ => v = .int .i64 xv, fun v _ => v = .bool false, fun v _ => v = .bool false, fun v _ => v = .bool false, fun v _ => v = .slice (some ⟨b, off, none⟩) n cap, fun v _ => v = .int .i64 (q : Int), fun v _ => v = .pointer (some ⟨b, off + q * 4, none⟩), fun v _ => v = .pointer (some ⟨b, off + q * 4 + 3, none⟩), fun v _ => v = .slice xA xn xc, fun v _ => v = .slice (some ⟨b', off', none⟩) n cap', fun v _ => v = .int .i64 (q : Int), fun v _ => v = .pointer (some ⟨b', off' + q * 4, none⟩), fun v _ => v = .pointer (some ⟨b', off' + q * 4 + 3, none⟩), fun v _ => v = .slice yA xn yc, fun v _ => v = .bool true, fun v _ => v = .bool false, fun v _ => v = .bool false]
        68 rfl (by kernel_rfl) ⟨mono_eq _, mono_eq _, mono_eq _, mono_eq _, mono_eq _, mono_eq _, mono_eq _, mono_eq _, mono_eq _, mono_eq _, mono_eq _, mono_eq _, mono_eq _, mono_eq _, mono_eq _, mono_eq _, mono_eq _, mono_eq _, mono_eq _, mono_eq _, mono_eq _, mono_eq _, mono_eq _, mono_eq _, mono_eq _, mono_eq _, mono_eq _, mono_eq _, mono_eq _, mono_eq _, mono_eq _, mono_eq _, mono_eq _, mono_eq _, mono_eq _, mono_eq _, mono_eq _, mono_eq _, mono_eq _, mono_eq _, mono_eq _, mono_eq _, mono_eq _, mono_eq _, mono_eq _, mono_eq _, mono_eq _, mono_eq _, mono_eq _, mono_eq _, mono_eq _, trivial⟩ ?_ ?_
      · refine ops_cons 0 ?_ (ops_cons 1 ?_ (ops_cons 2 ?_ (ops_cons 3 ?_ (ops_cons 4 ?_ (ops_cons 5 ?_ (ops_cons 6 ?_ (ops_cons 7 ?_ (ops_cons 8 ?_ (ops_cons 9 ?_ (ops_cons 10 ?_ (ops_cons 11 ?_ (ops_cons 12 ?_ (ops_cons 13 ?_ (ops_cons 14 ?_ (ops_cons 15 ?_ (ops_cons 16 ?_ (ops_cons 17 ?_ (ops_cons 18 ?_ (ops_cons 19 ?_ (ops_cons 20 ?_ (ops_cons 21 ?_ (ops_cons 22 ?_ (ops_cons 23 ?_ (ops_cons 24 ?_ (ops_cons 25 ?_ (ops_cons 26 ?_ (ops_cons 27 ?_ (ops_cons 28 ?_ (ops_cons 29 ?_ (ops_cons 30 ?_ (ops_cons 31 ?_ (ops_cons 32 ?_ (ops_cons 33 ?_ (ops_cons 34 ?_ (ops_cons 35 ?_ (ops_cons 36 ?_ (ops_cons 37 ?_ (ops_cons 38 ?_ (ops_cons 39 ?_ (ops_cons 40 ?_ (ops_cons 41 ?_ (ops_cons 42 ?_ (ops_cons 43 ?_ (ops_cons 44 ?_ (ops_cons 45 ?_ (ops_cons 46 ?_ (ops_cons 47 ?_ (ops_cons 48 ?_ (ops_cons 49 ?_ (ops_cons 50 ?_ (ops_nil 51)))))))))))))))))))))))))))))))))))))))))))))))))))
        · refine op_value fun a w c => ⟨(wanted_plain rfl), _, run_move _ rfl w, (c.was 0 (by kernel_rfl) rfl)⟩
        · refine op_value fun a w c => ⟨(wanted_plain rfl), _, run_move _ rfl w, (c.was 5 (by kernel_rfl) rfl)⟩
        · refine op_value fun a w c => ⟨(wanted_plain rfl), .pointer (some ⟨b, off + q * 4, none⟩), ?_, rfl⟩
          have e17 : a.eval (.tmp 17) = .slice (some ⟨b, off, none⟩) n cap := (c.new 0 17 (by kernel_rfl) (by kernel_rfl))
          have e18 : a.eval (.tmp 18) = .int .i64 (q : Int) := (c.new 1 18 (by kernel_rfl) (by kernel_rfl))
          generalize a.eval = ρ at e17 e18 ⊢
          simp [execOp, e17, e18, go_sem, j1, j2]
        · refine op_value fun a w c => ⟨(wanted_plain rfl), .pointer (some ⟨b, off + q * 4, none⟩), ?_, rfl⟩
          have e19 : a.eval (.tmp 19) = .pointer (some ⟨b, off + q * 4, none⟩) := (c.new 2 19 (by kernel_rfl) (by kernel_rfl))
          generalize a.eval = ρ at e19 ⊢
          simp [execOp, e19, go_sem]
        · refine op_value fun a w c => ⟨(wanted_plain rfl), .int .i64 xk, ?_, rfl⟩
          have e20 : a.eval (.tmp 20) = .pointer (some ⟨b, off + q * 4, none⟩) := (c.new 3 20 (by kernel_rfl) (by kernel_rfl))
          have hc := (c.ev.cell (p := ⟨_, _, none⟩) hbl).trans e0
          generalize a.eval = ρ at e20 ⊢
          simp [execOp, e20, hc, go_sem]
        · refine op_value fun a w c => ⟨(wanted_plain rfl), _, run_move _ rfl w, (c.was 1 (by kernel_rfl) rfl)⟩
        · refine op_value fun a w c => ⟨(wanted_plain rfl), _, run_move _ rfl w, (c.was 5 (by kernel_rfl) rfl)⟩
        · refine op_value fun a w c => ⟨(wanted_plain rfl), .pointer (some ⟨b', off' + q * 4, none⟩), ?_, rfl⟩
          have e22 : a.eval (.tmp 22) = .slice (some ⟨b', off', none⟩) n cap' := (c.new 5 22 (by kernel_rfl) (by kernel_rfl))
          have e23 : a.eval (.tmp 23) = .int .i64 (q : Int) := (c.new 6 23 (by kernel_rfl) (by kernel_rfl))
          generalize a.eval = ρ at e22 e23 ⊢
          simp [execOp, e22, e23, go_sem, j1, j2]
        · refine op_value fun a w c => ⟨(wanted_plain rfl), .pointer (some ⟨b', off' + q * 4, none⟩), ?_, rfl⟩
          have e24 : a.eval (.tmp 24) = .pointer (some ⟨b', off' + q * 4, none⟩) := (c.new 7 24 (by kernel_rfl) (by kernel_rfl))
          generalize a.eval = ρ at e24 ⊢
          simp [execOp, e24, go_sem]
        · refine op_value fun a w c => ⟨(wanted_plain rfl), .int .i64 xk, ?_, rfl⟩
          have e25 : a.eval (.tmp 25) = .pointer (some ⟨b', off' + q * 4, none⟩) := (c.new 8 25 (by kernel_rfl) (by kernel_rfl))
          have hc := (c.ev.cell (p := ⟨_, _, none⟩) hbl').trans g0
          generalize a.eval = ρ at e25 ⊢
          simp [execOp, e25, hc, go_sem]
        · refine op_value fun a w c => ⟨(wanted_plain rfl), .bool false, ?_, rfl⟩
          have e21 : a.eval (.tmp 21) = .int .i64 xk := (c.new 4 21 (by kernel_rfl) (by kernel_rfl))
          have e26 : a.eval (.tmp 26) = .int .i64 xk := (c.new 9 26 (by kernel_rfl) (by kernel_rfl))
          generalize a.eval = ρ at e21 e26 ⊢
          simp [execOp, e21, e26, go_sem]
        · refine op_value fun a w c => ⟨(wanted_plain rfl), _, run_move _ rfl w, (c.new 10 27 (by kernel_rfl) (by kernel_rfl))⟩
        · refine op_value fun a w c => ⟨(wanted_yes rfl (by kernel_rfl) (c.new 11 28 (by kernel_rfl) (by kernel_rfl))), _, run_move _ rfl w, (c.was 0 (by kernel_rfl) rfl)⟩
        · refine op_value fun a w c => ⟨(wanted_yes rfl (by kernel_rfl) (c.new 11 28 (by kernel_rfl) (by kernel_rfl))), _, run_move _ rfl w, (c.was 5 (by kernel_rfl) rfl)⟩
        · refine op_value fun a w c => ⟨(wanted_yes rfl (by kernel_rfl) (c.new 11 28 (by kernel_rfl) (by kernel_rfl))), .pointer (some ⟨b, off + q * 4, none⟩), ?_, rfl⟩
          have e29 : a.eval (.tmp 29) = .slice (some ⟨b, off, none⟩) n cap := (c.new 12 29 (by kernel_rfl) (by kernel_rfl))
          have e30 : a.eval (.tmp 30) = .int .i64 (q : Int) := (c.new 13 30 (by kernel_rfl) (by kernel_rfl))
          generalize a.eval = ρ at e29 e30 ⊢
          simp [execOp, e29, e30, go_sem, j1, j2]
        · refine op_value fun a w c => ⟨(wanted_yes rfl (by kernel_rfl) (c.new 11 28 (by kernel_rfl) (by kernel_rfl))), .pointer (some ⟨b, off + q * 4 + 1, none⟩), ?_, rfl⟩
          have e31 : a.eval (.tmp 31) = .pointer (some ⟨b, off + q * 4, none⟩) := (c.new 14 31 (by kernel_rfl) (by kernel_rfl))
          generalize a.eval = ρ at e31 ⊢
          simp [execOp, e31, go_sem]
        · refine op_value fun a w c => ⟨(wanted_yes rfl (by kernel_rfl) (c.new 11 28 (by kernel_rfl) (by kernel_rfl))), .string ⟨xs.toArray⟩, ?_, rfl⟩
          have e32 : a.eval (.tmp 32) = .pointer (some ⟨b, off + q * 4 + 1, none⟩) := (c.new 15 32 (by kernel_rfl) (by kernel_rfl))
          have hc := (c.ev.cell (p := ⟨_, _, none⟩) hbl).trans e1
          generalize a.eval = ρ at e32 ⊢
          simp [execOp, e32, hc, go_sem]
        · refine op_value fun a w c => ⟨(wanted_yes rfl (by kernel_rfl) (c.new 11 28 (by kernel_rfl) (by kernel_rfl))), _, run_move _ rfl w, (c.was 1 (by kernel_rfl) rfl)⟩
        · refine op_value fun a w c => ⟨(wanted_yes rfl (by kernel_rfl) (c.new 11 28 (by kernel_rfl) (by kernel_rfl))), _, run_move _ rfl w, (c.was 5 (by kernel_rfl) rfl)⟩
        · refine op_value fun a w c => ⟨(wanted_yes rfl (by kernel_rfl) (c.new 11 28 (by kernel_rfl) (by kernel_rfl))), .pointer (some ⟨b', off' + q * 4, none⟩), ?_, rfl⟩
          have e34 : a.eval (.tmp 34) = .slice (some ⟨b', off', none⟩) n cap' := (c.new 17 34 (by kernel_rfl) (by kernel_rfl))
          have e35 : a.eval (.tmp 35) = .int .i64 (q : Int) := (c.new 18 35 (by kernel_rfl) (by kernel_rfl))
          generalize a.eval = ρ at e34 e35 ⊢
          simp [execOp, e34, e35, go_sem, j1, j2]
        · refine op_value fun a w c => ⟨(wanted_yes rfl (by kernel_rfl) (c.new 11 28 (by kernel_rfl) (by kernel_rfl))), .pointer (some ⟨b', off' + q * 4 + 1, none⟩), ?_, rfl⟩
          have e36 : a.eval (.tmp 36) = .pointer (some ⟨b', off' + q * 4, none⟩) := (c.new 19 36 (by kernel_rfl) (by kernel_rfl))
          generalize a.eval = ρ at e36 ⊢
          simp [execOp, e36, go_sem]
        · refine op_value fun a w c => ⟨(wanted_yes rfl (by kernel_rfl) (c.new 11 28 (by kernel_rfl) (by kernel_rfl))), .string ⟨xs.toArray⟩, ?_, rfl⟩
          have e37 : a.eval (.tmp 37) = .pointer (some ⟨b', off' + q * 4 + 1, none⟩) := (c.new 20 37 (by kernel_rfl) (by kernel_rfl))
          have hc := (c.ev.cell (p := ⟨_, _, none⟩) hbl').trans g1
          generalize a.eval = ρ at e37 ⊢
          simp [execOp, e37, hc, go_sem]
        · refine op_value fun a w c => ⟨(wanted_yes rfl (by kernel_rfl) (c.new 11 28 (by kernel_rfl) (by kernel_rfl))), .bool false, ?_, rfl⟩
          have e33 : a.eval (.tmp 33) = .string ⟨xs.toArray⟩ := (c.new 16 33 (by kernel_rfl) (by kernel_rfl))
          have e38 : a.eval (.tmp 38) = .string ⟨xs.toArray⟩ := (c.new 21 38 (by kernel_rfl) (by kernel_rfl))
          generalize a.eval = ρ at e33 e38 ⊢
          simp [execOp, e33, e38, go_sem]
        · refine op_value fun a w c => ⟨(wanted_plain rfl), _, run_pick_false rfl (c.new 11 28 (by kernel_rfl) (by kernel_rfl)) w, (c.new 22 39 (by kernel_rfl) (by kernel_rfl))⟩
        · refine op_value fun a w c => ⟨(wanted_plain rfl), _, run_move _ rfl w, (c.new 23 40 (by kernel_rfl) (by kernel_rfl))⟩
        · refine op_value fun a w c => ⟨(wanted_yes rfl (by kernel_rfl) (c.new 24 41 (by kernel_rfl) (by kernel_rfl))), _, run_move _ rfl w, (c.was 0 (by kernel_rfl) rfl)⟩
        · refine op_value fun a w c => ⟨(wanted_yes rfl (by kernel_rfl) (c.new 24 41 (by kernel_rfl) (by kernel_rfl))), _, run_move _ rfl w, (c.was 5 (by kernel_rfl) rfl)⟩
        · refine op_value fun a w c => ⟨(wanted_yes rfl (by kernel_rfl) (c.new 24 41 (by kernel_rfl) (by kernel_rfl))), .pointer (some ⟨b, off + q * 4, none⟩), ?_, rfl⟩
          have e42 : a.eval (.tmp 42) = .slice (some ⟨b, off, none⟩) n cap := (c.new 25 42 (by kernel_rfl) (by kernel_rfl))
          have e43 : a.eval (.tmp 43) = .int .i64 (q : Int) := (c.new 26 43 (by kernel_rfl) (by kernel_rfl))
          generalize a.eval = ρ at e42 e43 ⊢
          simp [execOp, e42, e43, go_sem, j1, j2]
        · refine op_value fun a w c => ⟨(wanted_yes rfl (by kernel_rfl) (c.new 24 41 (by kernel_rfl) (by kernel_rfl))), .pointer (some ⟨b, off + q * 4 + 2, none⟩), ?_, rfl⟩
          have e44 : a.eval (.tmp 44) = .pointer (some ⟨b, off + q * 4, none⟩) := (c.new 27 44 (by kernel_rfl) (by kernel_rfl))
          generalize a.eval = ρ at e44 ⊢
          simp [execOp, e44, go_sem]
        · refine op_value fun a w c => ⟨(wanted_yes rfl (by kernel_rfl) (c.new 24 41 (by kernel_rfl) (by kernel_rfl))), .int .i64 xv, ?_, rfl⟩
          have e45 : a.eval (.tmp 45) = .pointer (some ⟨b, off + q * 4 + 2, none⟩) := (c.new 28 45 (by kernel_rfl) (by kernel_rfl))
          have hc := (c.ev.cell (p := ⟨_, _, none⟩) hbl).trans e2
          generalize a.eval = ρ at e45 ⊢
          simp [execOp, e45, hc, go_sem]
        · refine op_value fun a w c => ⟨(wanted_yes rfl (by kernel_rfl) (c.new 24 41 (by kernel_rfl) (by kernel_rfl))), _, run_move _ rfl w, (c.was 1 (by kernel_rfl) rfl)⟩
        · refine op_value fun a w c => ⟨(wanted_yes rfl (by kernel_rfl) (c.new 24 41 (by kernel_rfl) (by kernel_rfl))), _, run_move _ rfl w, (c.was 5 (by kernel_rfl) rfl)⟩
        · refine op_value fun a w c => ⟨(wanted_yes rfl (by kernel_rfl) (c.new 24 41 (by kernel_rfl) (by kernel_rfl))), .pointer (some ⟨b', off' + q * 4, none⟩), ?_, rfl⟩
          have e47 : a.eval (.tmp 47) = .slice (some ⟨b', off', none⟩) n cap' := (c.new 30 47 (by kernel_rfl) (by kernel_rfl))
          have e48 : a.eval (.tmp 48) = .int .i64 (q : Int) := (c.new 31 48 (by kernel_rfl) (by kernel_rfl))
          generalize a.eval = ρ at e47 e48 ⊢
          simp [execOp, e47, e48, go_sem, j1, j2]
        · refine op_value fun a w c => ⟨(wanted_yes rfl (by kernel_rfl) (c.new 24 41 (by kernel_rfl) (by kernel_rfl))), .pointer (some ⟨b', off' + q * 4 + 2, none⟩), ?_, rfl⟩
          have e49 : a.eval (.tmp 49) = .pointer (some ⟨b', off' + q * 4, none⟩) := (c.new 32 49 (by kernel_rfl) (by kernel_rfl))
          generalize a.eval = ρ at e49 ⊢
          simp [execOp, e49, go_sem]
        · refine op_value fun a w c => ⟨(wanted_yes rfl (by kernel_rfl) (c.new 24 41 (by kernel_rfl) (by kernel_rfl))), .int .i64 xv, ?_, rfl⟩
          have e50 : a.eval (.tmp 50) = .pointer (some ⟨b', off' + q * 4 + 2, none⟩) := (c.new 33 50 (by kernel_rfl) (by kernel_rfl))
          have hc := (c.ev.cell (p := ⟨_, _, none⟩) hbl').trans g2
          generalize a.eval = ρ at e50 ⊢
          simp [execOp, e50, hc, go_sem]
        · refine op_value fun a w c => ⟨(wanted_yes rfl (by kernel_rfl) (c.new 24 41 (by kernel_rfl) (by kernel_rfl))), .bool false, ?_, rfl⟩
          have e46 : a.eval (.tmp 46) = .int .i64 xv := (c.new 29 46 (by kernel_rfl) (by kernel_rfl))
          have e51 : a.eval (.tmp 51) = .int .i64 xv := (c.new 34 51 (by kernel_rfl) (by kernel_rfl))
          generalize a.eval = ρ at e46 e51 ⊢
          simp [execOp, e46, e51, go_sem]
        · refine op_value fun a w c => ⟨(wanted_plain rfl), _, run_pick_false rfl (c.new 24 41 (by kernel_rfl) (by kernel_rfl)) w, (c.new 35 52 (by kernel_rfl) (by kernel_rfl))⟩
        · refine op_value fun a w c => ⟨(wanted_plain rfl), _, run_move _ rfl w, (c.new 36 53 (by kernel_rfl) (by kernel_rfl))⟩
        · refine op_value fun a w c => ⟨(wanted_yes rfl (by kernel_rfl) (c.new 37 54 (by kernel_rfl) (by kernel_rfl))), _, run_move _ rfl w, (c.was 0 (by kernel_rfl) rfl)⟩
        · refine op_value fun a w c => ⟨(wanted_yes rfl (by kernel_rfl) (c.new 37 54 (by kernel_rfl) (by kernel_rfl))), _, run_move _ rfl w, (c.was 5 (by kernel_rfl) rfl)⟩
        · refine op_value fun a w c => ⟨(wanted_yes rfl (by kernel_rfl) (c.new 37 54 (by kernel_rfl) (by kernel_rfl))), .pointer (some ⟨b, off + q * 4, none⟩), ?_, rfl⟩
          have e55 : a.eval (.tmp 55) = .slice (some ⟨b, off, none⟩) n cap := (c.new 38 55 (by kernel_rfl) (by kernel_rfl))
          have e56 : a.eval (.tmp 56) = .int .i64 (q : Int) := (c.new 39 56 (by kernel_rfl) (by kernel_rfl))
          generalize a.eval = ρ at e55 e56 ⊢
          simp [execOp, e55, e56, go_sem, j1, j2]
        · refine op_value fun a w c => ⟨(wanted_yes rfl (by kernel_rfl) (c.new 37 54 (by kernel_rfl) (by kernel_rfl))), .pointer (some ⟨b, off + q * 4 + 3, none⟩), ?_, rfl⟩
          have e57 : a.eval (.tmp 57) = .pointer (some ⟨b, off + q * 4, none⟩) := (c.new 40 57 (by kernel_rfl) (by kernel_rfl))
          generalize a.eval = ρ at e57 ⊢
          simp [execOp, e57, go_sem]
        · refine op_value fun a w c => ⟨(wanted_yes rfl (by kernel_rfl) (c.new 37 54 (by kernel_rfl) (by kernel_rfl))), .slice xA xn xc, ?_, rfl⟩
          have e58 : a.eval (.tmp 58) = .pointer (some ⟨b, off + q * 4 + 3, none⟩) := (c.new 41 58 (by kernel_rfl) (by kernel_rfl))
          have hc := (c.ev.cell (p := ⟨_, _, none⟩) hbl).trans e3
          generalize a.eval = ρ at e58 ⊢
          simp [execOp, e58, hc, go_sem]
        · refine op_value fun a w c => ⟨(wanted_yes rfl (by kernel_rfl) (c.new 37 54 (by kernel_rfl) (by kernel_rfl))), _, run_move _ rfl w, (c.was 1 (by kernel_rfl) rfl)⟩
        · refine op_value fun a w c => ⟨(wanted_yes rfl (by kernel_rfl) (c.new 37 54 (by kernel_rfl) (by kernel_rfl))), _, run_move _ rfl w, (c.was 5 (by kernel_rfl) rfl)⟩
        · refine op_value fun a w c => ⟨(wanted_yes rfl (by kernel_rfl) (c.new 37 54 (by kernel_rfl) (by kernel_rfl))), .pointer (some ⟨b', off' + q * 4, none⟩), ?_, rfl⟩
          have e60 : a.eval (.tmp 60) = .slice (some ⟨b', off', none⟩) n cap' := (c.new 43 60 (by kernel_rfl) (by kernel_rfl))
          have e61 : a.eval (.tmp 61) = .int .i64 (q : Int) := (c.new 44 61 (by kernel_rfl) (by kernel_rfl))
          generalize a.eval = ρ at e60 e61 ⊢
          simp [execOp, e60, e61, go_sem, j1, j2]
        · refine op_value fun a w c => ⟨(wanted_yes rfl (by kernel_rfl) (c.new 37 54 (by kernel_rfl) (by kernel_rfl))), .pointer (some ⟨b', off' + q * 4 + 3, none⟩), ?_, rfl⟩
          have e62 : a.eval (.tmp 62) = .pointer (some ⟨b', off' + q * 4, none⟩) := (c.new 45 62 (by kernel_rfl) (by kernel_rfl))
          generalize a.eval = ρ at e62 ⊢
          simp [execOp, e62, go_sem]
        · refine op_value fun a w c => ⟨(wanted_yes rfl (by kernel_rfl) (c.new 37 54 (by kernel_rfl) (by kernel_rfl))), .slice yA xn yc, ?_, rfl⟩
          have e63 : a.eval (.tmp 63) = .pointer (some ⟨b', off' + q * 4 + 3, none⟩) := (c.new 46 63 (by kernel_rfl) (by kernel_rfl))
          have hc := (c.ev.cell (p := ⟨_, _, none⟩) hbl').trans g3
          generalize a.eval = ρ at e63 ⊢
          simp [execOp, e63, hc, go_sem]
        · refine op_call fun a w c => ⟨(wanted_yes rfl (by kernel_rfl) (c.new 37 54 (by kernel_rfl) (by kernel_rfl))), 8, #[.slice xA xn xc, .slice yA xn yc], ?_, ?_⟩
          · rw [run_call 8 _ _ rfl (by kernel_rfl)]
            have e59 : a.eval (.tmp 59) = .slice xA xn xc := (c.new 42 59 (by kernel_rfl) (by kernel_rfl))
            have e64 : a.eval (.tmp 64) = .slice yA xn yc := (c.new 47 64 (by kernel_rfl) (by kernel_rfl))
            simp [e59, e64]
          · refine (HPx.out w c.ev).mono ?_
            rintro e w2 ⟨rfl, hE⟩
            exact ⟨_, rfl, hE, rfl⟩
        · refine op_value fun a w c => ⟨(wanted_yes rfl (by kernel_rfl) (c.new 37 54 (by kernel_rfl) (by kernel_rfl))), .bool false, ?_, rfl⟩
          have e65 : a.eval (.tmp 65) = .bool true := (c.new 48 65 (by kernel_rfl) (by kernel_rfl))
          generalize a.eval = ρ at e65 ⊢
          simp [execOp, e65, go_sem]
        · refine op_value fun a w c => ⟨(wanted_plain rfl), _, run_pick_false rfl (c.new 37 54 (by kernel_rfl) (by kernel_rfl)) w, (c.new 49 66 (by kernel_rfl) (by kernel_rfl))⟩
      intro sl wq hEr hold hnew
      have f0 : sl 0 = .slice (some ⟨b, off, none⟩) n cap := hold 0 (by kernel_rfl)
      have f1 : sl 1 = .slice (some ⟨b', off', none⟩) n cap' := hold 1 (by kernel_rfl)
      have f2 : sl 2 = undef := hold 2 (by kernel_rfl)
      have f3 : sl 3 = undef := hold 3 (by kernel_rfl)
      have f4 : sl 4 = u4 := hold 4 (by kernel_rfl)
      have f5 : sl 5 = .int .i64 (q : Int) := hold 5 (by kernel_rfl)
      have f6 : sl 6 = .slice (some ⟨b, off, none⟩) n cap := hold 6 (by kernel_rfl)
      have f7 : sl 7 = .int .i64 (n : Int) := hold 7 (by kernel_rfl)
      have f8 : sl 8 = .slice (some ⟨b', off', none⟩) n cap' := hold 8 (by kernel_rfl)
      have f9 : sl 9 = .int .i64 (n : Int) := hold 9 (by kernel_rfl)
      have f10 : sl 10 = .bool false := hold 10 (by kernel_rfl)
      have f11 : sl 11 = .int .i64 (q : Int) := hold 11 (by kernel_rfl)
      have f12 : sl 12 = .slice (some ⟨b, off, none⟩) n cap := hold 12 (by kernel_rfl)
      have f13 : sl 13 = .int .i64 (n : Int) := hold 13 (by kernel_rfl)
      have f14 : sl 14 = .bool true := hold 14 (by kernel_rfl)
      have f15 : sl 15 = u15 := hold 15 (by kernel_rfl)
      have f16 : sl 16 = u16 := hold 16 (by kernel_rfl)
      have f17 : sl 17 = .slice (some ⟨b, off, none⟩) n cap := hnew 0 17 (by kernel_rfl)
      have f18 : sl 18 = .int .i64 (q : Int) := hnew 1 18 (by kernel_rfl)
      have f19 : sl 19 = .pointer (some ⟨b, off + q * 4, none⟩) := hnew 2 19 (by kernel_rfl)
      have f20 : sl 20 = .pointer (some ⟨b, off + q * 4, none⟩) := hnew 3 20 (by kernel_rfl)
      have f21 : sl 21 = .int .i64 xk := hnew 4 21 (by kernel_rfl)
      have f22 : sl 22 = .slice (some ⟨b', off', none⟩) n cap' := hnew 5 22 (by kernel_rfl)
      have f23 : sl 23 = .int .i64 (q : Int) := hnew 6 23 (by kernel_rfl)
      have f24 : sl 24 = .pointer (some ⟨b', off' + q * 4, none⟩) := hnew 7 24 (by kernel_rfl)
      have f25 : sl 25 = .pointer (some ⟨b', off' + q * 4, none⟩) := hnew 8 25 (by kernel_rfl)
      have f26 : sl 26 = .int .i64 xk := hnew 9 26 (by kernel_rfl)
      have f27 : sl 27 = .bool false := hnew 10 27 (by kernel_rfl)
      have f28 : sl 28 = .bool false := hnew 11 28 (by kernel_rfl)
      have f29 : sl 29 = .slice (some ⟨b, off, none⟩) n cap := hnew 12 29 (by kernel_rfl)
      have f30 : sl 30 = .int .i64 (q : Int) := hnew 13 30 (by kernel_rfl)
      have f31 : sl 31 = .pointer (some ⟨b, off + q * 4, none⟩) := hnew 14 31 (by kernel_rfl)
      have f32 : sl 32 = .pointer (some ⟨b, off + q * 4 + 1, none⟩) := hnew 15 32 (by kernel_rfl)
      have f33 : sl 33 = .string ⟨xs.toArray⟩ := hnew 16 33 (by kernel_rfl)
      have f34 : sl 34 = .slice (some ⟨b', off', none⟩) n cap' := hnew 17 34 (by kernel_rfl)
      have f35 : sl 35 = .int .i64 (q : Int) := hnew 18 35 (by kernel_rfl)
      have f36 : sl 36 = .pointer (some ⟨b', off' + q * 4, none⟩) := hnew 19 36 (by kernel_rfl)
      have f37 : sl 37 = .pointer (some ⟨b', off' + q * 4 + 1, none⟩) := hnew 20 37 (by kernel_rfl)
      have f38 : sl 38 = .string ⟨xs.toArray⟩ := hnew 21 38 (by kernel_rfl)
      have f39 : sl 39 = .bool false := hnew 22 39 (by kernel_rfl)
      have f40 : sl 40 = .bool false := hnew 23 40 (by kernel_rfl)
      have f41 : sl 41 = .bool false := hnew 24 41 (by kernel_rfl)
      have f42 : sl 42 = .slice (some ⟨b, off, none⟩) n cap := hnew 25 42 (by kernel_rfl)
      have f43 : sl 43 = .int .i64 (q : Int) := hnew 26 43 (by kernel_rfl)
      have f44 : sl 44 = .pointer (some ⟨b, off + q * 4, none⟩) := hnew 27 44 (by kernel_rfl)
      have f45 : sl 45 = .pointer (some ⟨b, off + q * 4 + 2, none⟩) := hnew 28 45 (by kernel_rfl)
      have f46 : sl 46 = .int .i64 xv := hnew 29 46 (by kernel_rfl)
      have f47 : sl 47 = .slice (some ⟨b', off', none⟩) n cap' := hnew 30 47 (by kernel_rfl)
      have f48 : sl 48 = .int .i64 (q : Int) := hnew 31 48 (by kernel_rfl)
      have f49 : sl 49 = .pointer (some ⟨b', off' + q * 4, none⟩) := hnew 32 49 (by kernel_rfl)
      have f50 : sl 50 = .pointer (some ⟨b', off' + q * 4 + 2, none⟩) := hnew 33 50 (by kernel_rfl)
      have f51 : sl 51 = .int .i64 xv := hnew 34 51 (by kernel_rfl)
      have f52 : sl 52 = .bool false := hnew 35 52 (by kernel_rfl)
      have f53 : sl 53 = .bool false := hnew 36 53 (by kernel_rfl)
      have f54 : sl 54 = .bool false := hnew 37 54 (by kernel_rfl)
      have f55 : sl 55 = .slice (some ⟨b, off, none⟩) n cap := hnew 38 55 (by kernel_rfl)
      have f56 : sl 56 = .int .i64 (q : Int) := hnew 39 56 (by kernel_rfl)
      have f57 : sl 57 = .pointer (some ⟨b, off + q * 4, none⟩) := hnew 40 57 (by kernel_rfl)
      have f58 : sl 58 = .pointer (some ⟨b, off + q * 4 + 3, none⟩) := hnew 41 58 (by kernel_rfl)
      have f59 : sl 59 = .slice xA xn xc := hnew 42 59 (by kernel_rfl)
      have f60 : sl 60 = .slice (some ⟨b', off', none⟩) n cap' := hnew 43 60 (by kernel_rfl)
      have f61 : sl 61 = .int .i64 (q : Int) := hnew 44 61 (by kernel_rfl)
      have f62 : sl 62 = .pointer (some ⟨b', off' + q * 4, none⟩) := hnew 45 62 (by kernel_rfl)
      have f63 : sl 63 = .pointer (some ⟨b', off' + q * 4 + 3, none⟩) := hnew 46 63 (by kernel_rfl)
      have f64 : sl 64 = .slice yA xn yc := hnew 47 64 (by kernel_rfl)
      have f65 : sl 65 = .bool true := hnew 48 65 (by kernel_rfl)
      have f66 : sl 66 = .bool false := hnew 49 66 (by kernel_rfl)
      have f67 : sl 67 = .bool false := hnew 50 67 (by kernel_rfl)
      change Exit.then _ _ .normal ⟨#[sl 0, sl 1, sl 2, sl 3, sl 4, sl 5, sl 6, sl 7, sl 8, sl 9, sl 10, sl 11, sl 12, sl 13, sl 14, sl 15, sl 16, sl 17, sl 18, sl 19, sl 20, sl 21, sl 22, sl 23, sl 24, sl 25, sl 26, sl 27, sl 28, sl 29, sl 30, sl 31, sl 32, sl 33, sl 34, sl 35, sl 36, sl 37, sl 38, sl 39, sl 40, sl 41, sl 42, sl 43, sl 44, sl 45, sl 46, sl 47, sl 48, sl 49, sl 50, sl 51, sl 52, sl 53, sl 54, sl 55, sl 56, sl 57, sl 58, sl 59, sl 60, sl 61, sl 62, sl 63, sl 64, sl 65, sl 66, sl 67], _⟩ _
      simp only [f0, f1, f2, f3, f4, f5, f6, f7, f8, f9, f10, f11, f12, f13, f14, f15, f16, f17, f18, f19, f20, f21, f22, f23, f24, f25, f26, f27, f28, f29, f30, f31, f32, f33, f34, f35, f36, f37, f38, f39, f40, f41, f42, f43, f44, f45, f46, f47, f48, f49, f50, f51, f52, f53, f54, f55, f56, f57, f58, f59, f60, f61, f62, f63, f64, f65, f66, f67]
      clear hold hnew
      go_wp2
      go_roundw
      case rel => exact ⟨q + 1, by omega, by go_num, hE.trans hEr⟩
      case measure => simp [intOf]; omega
    · obtain rfl : q = n := by omega
      go_wp2
      go_ret
      exact ⟨rfl, hE⟩
theorem keep_exprs (N : Nat) : ExAt N := by
  induction N using Nat.strongRecOn with
  | ind N ih => exact keep_exprs_step N ih
end Go.Proofs.YtnljagmpeifikaaDoor
