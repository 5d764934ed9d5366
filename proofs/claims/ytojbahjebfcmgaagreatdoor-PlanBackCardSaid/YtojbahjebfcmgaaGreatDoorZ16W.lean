/-
  Texts that belong together: The document (chapter 9): two lists of expressions that are alike are told to be so. Where the trees stand that are read. The law's own function placed. The document's own Read in plain words; what is open in memory.
-/
import Derived.Test.YtojbahjebfcmgaaGreatDoorZ15W
import Derived.Test.YtojbahjebfcmgaaGreatDoorZ0W
namespace Go.Proofs.YtojbahjebfcmgaaGreatDoor
open Go.RowKit
set_option linter.unusedVariables false

/-- What exprs gives for lists that are alike, no deeper than N. -/
def E9At (N : Nat) : Prop := ∀ (l l' : List M) (b0 b1 : Nat) (w : World) (A : Option Addr) (n cap : Nat) (B : Option Addr) (cap' : Nat), M.deps l ≤ N → l.map M.t = l'.map M.t → Es w A n cap l → Es w B n cap' l' → (∀ x ∈ l, Lx b0 [] w x) → (∀ x ∈ l', Lx b1 [] w x) →
  Calls Tryz.prog 61 #[.slice A n cap, .slice B n cap'] w fun e w' => e = .returned (.bool true) ∧ Ev w w'
set_option maxRecDepth 100000 in
set_option maxHeartbeats 8000000 in
theorem ref9_exprs_step (N : Nat) (ih : ∀ K, K < N → E9At K) : E9At N := by
  intro l l' b0 b1 w A n cap B cap' hd hll hA hB hxl hyl
  have hc1 := hA.le
  have hc2 := hA.max
  have hc3 := hB.le
  have hc4 := hB.max
  have HA := Lib.hid hA
  have HB := Lib.hid hB
  have HXL := Lib.hid hxl
  have HYL := Lib.hid hyl
  have HLL := Lib.hid hll
  have HD := Lib.hid hd
  unfold E9At at ih
  have HIH := Lib.hid ih
  have hmix : Tryz.prog.follows .mixedOrders = true := by kernel_rfl
  clear ih hd hll hA hB hxl hyl
  go_enter Tryz.func61, Tryz.ntmps61
  go_wp2
  go_loopw [5] (fun iv wr => ∃ q : Nat, q ≤ n ∧ iv = .int .i64 (q : Int) ∧ Ev w wr) (fun iv _ => n - (intOf iv).toNat)
  case atStart => exact ⟨0, Nat.zero_le _, rfl, Ev.refl _⟩
  case round =>
    obtain ⟨q, hq, rfl, hE⟩ := hrel
    by_cases hlt : q < n
    · obtain ⟨x, hx⟩ := HA.out.at hlt
      obtain ⟨y, hy⟩ := HB.out.at hlt
      have hxy : x.t = y.t := by
        have h1 : (l.map M.t)[q]? = some x.t := by rw [List.getElem?_map, hx]; rfl
        rw [HLL.out, List.getElem?_map, hy] at h1
        exact (Option.some.inj h1).symm
      obtain ⟨h1, h2, h3, h4, h5⟩ := alike_at hxy
      obtain ⟨b, off, rfl, hbl, e0, e1, e2, e3⟩ := Es.cell (HA.out.ev hE) hx
      obtain ⟨b', off', rfl, hbl', g0, g1, g2, g3⟩ := Es.cell (HB.out.ev hE) hy
      unfold M.kv at e3 g3
      rw [h1] at g0
      rw [h2] at g1
      rw [h3] at g2
      rw [h4] at g3
      have hxm := List.mem_of_getElem? hx
      have hym := List.mem_of_getElem? hy
      have HPx := Lib.hid (fun w1 (h1 : Ev wr w1) => HIH.out (M.deps x.kids) (by have := M.dep_kid l x hxm; have := M.dep_eq x; have := HD.out; omega) x.kids y.kids b0 b1 w1 x.A x.kids.length x.cap y.A y.cap (Nat.le_refl _) h5 ((HXL.out x hxm).es.ev (hE.trans h1)) (by rw [← h4]; exact (HYL.out y hym).es.ev (hE.trans h1)) (fun z hz => ((HXL.out x hxm).kid z hz).ev (hE.trans h1)) (fun z hz => ((HYL.out y hym).kid z hz).ev (hE.trans h1)))
      have j1 : (0 : Int) ≤ (q : Int) := by omega
      have j2 : (q : Int) < (n : Int) := by omega
      clear hx hy hxy h1 h2 h3 h5 hxm hym
      generalize hxn : x.kids.length = xn at *
      clear h4 hxn
      generalize x.A = xA at *
      generalize y.A = yA at *
      generalize x.cap = xc at *
      generalize y.cap = yc at *
      generalize x.kind = xk at *
      generalize x.s = xs at *
      generalize x.n = xv at *
      go_wp2_with fail
      refine wp_region_slots hmix [fun v _ => v = .slice (some ⟨b, off, none⟩) n cap, fun v _ => v = .int .i64 (q : Int), fun v _ => v = .pointer (some ⟨b, off + q * 4, none⟩), fun v _ => v = .pointer (some ⟨b, off + q * 4, none⟩), fun v _ => v = .int .i64 xk, fun v _ => v = .slice (some ⟨b', off', none⟩) n cap', fun v _ => v = .int .i64 (q : Int), fun v _ => v = .pointer (some ⟨b', off' + q * 4, none⟩), fun v _ => v = .pointer (some ⟨b', off' + q * 4, none⟩), fun v _ => v = .int .i64 xk, fun v _ => v = .bool false, fun v _ => v = .bool false, fun v _ => v = .slice (some ⟨b, off, none⟩) n cap, fun v _ => v = .int .i64 (q : Int), fun v _ => v = .pointer (some ⟨b, off + q * 4, none⟩), fun v _ => v = .pointer (some ⟨b, off + q * 4 + 1, none⟩), fun v _ => v = .string ⟨xs.toArray⟩, fun v _ => v = .slice (some ⟨b', off', none⟩) n cap', fun v _ => v = .int .i64 (q : Int), fun v _ => v = .pointer (some ⟨b', off' + q * 4, none⟩), fun v _ => v = .pointer (some ⟨b', off' + q * 4 + 1, none⟩), fun v _ => v = .string ⟨xs.toArray⟩, fun v _ => v = .bool false, fun v _ => v = .bool false, fun v _ => v = .bool false, fun v _ => v = .slice (some ⟨b, off, none⟩) n cap, fun v _ => v = .int .i64 (q : Int), fun v _ => v = .pointer (some ⟨b, off + q * 4, none⟩), fun v _ => v = .pointer (some ⟨b, off + q * 4 + 2, none⟩), fun v _ => v = .int .i64 xv, fun v _ => v = .slice (some ⟨b', off', none⟩) n cap', fun v _ => v = .int .i64 (q : Int), fun v _ => v = .pointer (some ⟨b', off' + q * 4, none⟩), fun v _ => v = .pointer (some ⟨b', off' + q * 4 + 2, none⟩), fun v _ => v = .int .i64 xv, fun v _ => v = .bool false, fun v _ => v = .bool false, fun v _ => v = .bool false, fun v _ => v = .slice (some ⟨b, off, none⟩) n cap, fun v _ => v = .int .i64 (q : Int), fun v _ => v = .pointer (some ⟨b, off + q * 4, none⟩), fun v _ => v = .pointer (some ⟨b, off + q * 4 + 3, none⟩), fun v _ => v = .slice xA xn xc, fun v _ => v = .slice (some ⟨b', off', none⟩) n cap', fun v _ => v = .int .i64 (q : Int), fun v _ => v = .pointer (some ⟨b', off' + q * 4, none⟩), fun v _ => v = .pointer (some ⟨b', off' + q * 4 + 3, none⟩), fun v _ => v = .slice yA xn yc, fun v _ => v = .bool true, fun v _ => v = .bool false, fun v _ => v = .bool false]
        68 rfl (by kernel_rfl) ⟨mono_eq _, mono_eq _, mono_eq _, mono_eq _, mono_eq _, mono_eq _, mono_eq _, mono_eq _, mono_eq _, mono_eq _, mono_eq _, mono_eq _, mono_eq _, mono_eq _, mono_eq _, mono_eq _, mono_eq _, mono_eq _, mono_eq _, mono_eq _, mono_eq _, mono_eq _, mono_eq _, mono_eq _, mono_eq _, mono_eq _, mono_eq _, mono_eq _, mono_eq _, mono_eq _, mono_eq _, mono_eq _, mono_eq _, mono_eq _, mono_eq _, mono_eq _, mono_eq _, mono_eq _, mono_eq _, mono_eq _, mono_eq _, mono_eq _, mono_eq _, mono_eq _, mono_eq _, mono_eq _, mono_eq _, mono_eq _, mono_eq _, mono_eq _, mono_eq _, trivial⟩ ?_ ?_
      · refine ops_cons 0 ?_ (ops_cons 1 ?_ (ops_cons 2 ?_ (ops_cons 3 ?_ (ops_cons 4 ?_ (ops_cons 5 ?_ (ops_cons 6 ?_ (ops_cons 7 ?_ (ops_cons 8 ?_ (ops_cons 9 ?_ (ops_cons 10 ?_ (ops_cons 11 ?_ (ops_cons 12 ?_ (ops_cons 13 ?_ (ops_cons 14 ?_ (ops_cons 15 ?_ (ops_cons 16 ?_ (ops_cons 17 ?_ (ops_cons 18 ?_ (ops_cons 19 ?_ (ops_cons 20 ?_ (ops_cons 21 ?_ (ops_cons 22 ?_ (ops_cons 23 ?_ (ops_cons 24 ?_ (ops_cons 25 ?_ (ops_cons 26 ?_ (ops_cons 27 ?_ (ops_cons 28 ?_ (ops_cons 29 ?_ (ops_cons 30 ?_ (ops_cons 31 ?_ (ops_cons 32 ?_ (ops_cons 33 ?_ (ops_cons 34 ?_ (ops_cons 35 ?_ (ops_cons 36 ?_ (ops_cons 37 ?_ (ops_cons 38 ?_ (ops_cons 39 ?_ (ops_cons 40 ?_ (ops_cons 41 ?_ (ops_cons 42 ?_ (ops_cons 43 ?_ (ops_cons 44 ?_ (ops_cons 45 ?_ (ops_cons 46 ?_ (ops_cons 47 ?_ (ops_cons 48 ?_ (ops_cons 49 ?_ (ops_cons 50 ?_ (ops_nil 51)))))))))))))))))))))))))))))))))))))))))))))))))))
        · refine op_value fun a w c => ⟨(wanted_plain rfl), _, run_move _ rfl w, (c.was 0 (by kernel_rfl) rfl)⟩
        · refine op_value fun a w c => ⟨(wanted_plain rfl), _, run_move _ rfl w, (c.was 5 (by kernel_rfl) rfl)⟩
        · refine op_value fun a w c => ⟨(wanted_plain rfl), .pointer (some ⟨b, off + q * 4, none⟩), ?_, rfl⟩
          have e17 : a.eval (.tmp 17) = .slice (some ⟨b, off, none⟩) n cap := (c.new 0 17 (by kernel_rfl) (by kernel_rfl))
          have e18 : a.eval (.tmp 18) = .int .i64 (q : Int) := (c.new 1 18 (by kernel_rfl) (by kernel_rfl))
          generalize a.eval = ρ at e17 e18 ⊢
          simp [execOp, e17, e18, go_sem, j1, j2]
        · refine op_value fun a w c => ⟨(wanted_plain rfl), .pointer (some ⟨b, off + q * 4, none⟩), ?_, rfl⟩
          have e19 : a.eval (.tmp 19) = .pointer (some ⟨b, off + q * 4, none⟩) := (c.new 2 19 (by kernel_rfl) (by kernel_rfl))
          generalize a.eval = ρ at e19 ⊢
          simp [execOp, e19, go_sem]
        · refine op_value fun a w c => ⟨(wanted_plain rfl), .int .i64 xk, ?_, rfl⟩
          have e20 : a.eval (.tmp 20) = .pointer (some ⟨b, off + q * 4, none⟩) := (c.new 3 20 (by kernel_rfl) (by kernel_rfl))
          have hc := (c.ev.cell (p := ⟨_, _, none⟩) hbl).trans e0
          generalize a.eval = ρ at e20 ⊢
          simp [execOp, e20, hc, go_sem]
        · refine op_value fun a w c => ⟨(wanted_plain rfl), _, run_move _ rfl w, (c.was 1 (by kernel_rfl) rfl)⟩
        · refine op_value fun a w c => ⟨(wanted_plain rfl), _, run_move _ rfl w, (c.was 5 (by kernel_rfl) rfl)⟩
        · refine op_value fun a w c => ⟨(wanted_plain rfl), .pointer (some ⟨b', off' + q * 4, none⟩), ?_, rfl⟩
          have e22 : a.eval (.tmp 22) = .slice (some ⟨b', off', none⟩) n cap' := (c.new 5 22 (by kernel_rfl) (by kernel_rfl))
          have e23 : a.eval (.tmp 23) = .int .i64 (q : Int) := (c.new 6 23 (by kernel_rfl) (by kernel_rfl))
          generalize a.eval = ρ at e22 e23 ⊢
          simp [execOp, e22, e23, go_sem, j1, j2]
        · refine op_value fun a w c => ⟨(wanted_plain rfl), .pointer (some ⟨b', off' + q * 4, none⟩), ?_, rfl⟩
          have e24 : a.eval (.tmp 24) = .pointer (some ⟨b', off' + q * 4, none⟩) := (c.new 7 24 (by kernel_rfl) (by kernel_rfl))
          generalize a.eval = ρ at e24 ⊢
          simp [execOp, e24, go_sem]
        · refine op_value fun a w c => ⟨(wanted_plain rfl), .int .i64 xk, ?_, rfl⟩
          have e25 : a.eval (.tmp 25) = .pointer (some ⟨b', off' + q * 4, none⟩) := (c.new 8 25 (by kernel_rfl) (by kernel_rfl))
          have hc := (c.ev.cell (p := ⟨_, _, none⟩) hbl').trans g0
          generalize a.eval = ρ at e25 ⊢
          simp [execOp, e25, hc, go_sem]
        · refine op_value fun a w c => ⟨(wanted_plain rfl), .bool false, ?_, rfl⟩
          have e21 : a.eval (.tmp 21) = .int .i64 xk := (c.new 4 21 (by kernel_rfl) (by kernel_rfl))
          have e26 : a.eval (.tmp 26) = .int .i64 xk := (c.new 9 26 (by kernel_rfl) (by kernel_rfl))
          generalize a.eval = ρ at e21 e26 ⊢
          simp [execOp, e21, e26, go_sem]
        · refine op_value fun a w c => ⟨(wanted_plain rfl), _, run_move _ rfl w, (c.new 10 27 (by kernel_rfl) (by kernel_rfl))⟩
        · refine op_value fun a w c => ⟨(wanted_yes rfl (by kernel_rfl) (c.new 11 28 (by kernel_rfl) (by kernel_rfl))), _, run_move _ rfl w, (c.was 0 (by kernel_rfl) rfl)⟩
        · refine op_value fun a w c => ⟨(wanted_yes rfl (by kernel_rfl) (c.new 11 28 (by kernel_rfl) (by kernel_rfl))), _, run_move _ rfl w, (c.was 5 (by kernel_rfl) rfl)⟩
        · refine op_value fun a w c => ⟨(wanted_yes rfl (by kernel_rfl) (c.new 11 28 (by kernel_rfl) (by kernel_rfl))), .pointer (some ⟨b, off + q * 4, none⟩), ?_, rfl⟩
          have e29 : a.eval (.tmp 29) = .slice (some ⟨b, off, none⟩) n cap := (c.new 12 29 (by kernel_rfl) (by kernel_rfl))
          have e30 : a.eval (.tmp 30) = .int .i64 (q : Int) := (c.new 13 30 (by kernel_rfl) (by kernel_rfl))
          generalize a.eval = ρ at e29 e30 ⊢
          simp [execOp, e29, e30, go_sem, j1, j2]
        · refine op_value fun a w c => ⟨(wanted_yes rfl (by kernel_rfl) (c.new 11 28 (by kernel_rfl) (by kernel_rfl))), .pointer (some ⟨b, off + q * 4 + 1, none⟩), ?_, rfl⟩
          have e31 : a.eval (.tmp 31) = .pointer (some ⟨b, off + q * 4, none⟩) := (c.new 14 31 (by kernel_rfl) (by kernel_rfl))
          generalize a.eval = ρ at e31 ⊢
          simp [execOp, e31, go_sem]
        · refine op_value fun a w c => ⟨(wanted_yes rfl (by kernel_rfl) (c.new 11 28 (by kernel_rfl) (by kernel_rfl))), .string ⟨xs.toArray⟩, ?_, rfl⟩
          have e32 : a.eval (.tmp 32) = .pointer (some ⟨b, off + q * 4 + 1, none⟩) := (c.new 15 32 (by kernel_rfl) (by kernel_rfl))
          have hc := (c.ev.cell (p := ⟨_, _, none⟩) hbl).trans e1
          generalize a.eval = ρ at e32 ⊢
          simp [execOp, e32, hc, go_sem]
        · refine op_value fun a w c => ⟨(wanted_yes rfl (by kernel_rfl) (c.new 11 28 (by kernel_rfl) (by kernel_rfl))), _, run_move _ rfl w, (c.was 1 (by kernel_rfl) rfl)⟩
        · refine op_value fun a w c => ⟨(wanted_yes rfl (by kernel_rfl) (c.new 11 28 (by kernel_rfl) (by kernel_rfl))), _, run_move _ rfl w, (c.was 5 (by kernel_rfl) rfl)⟩
        · refine op_value fun a w c => ⟨(wanted_yes rfl (by kernel_rfl) (c.new 11 28 (by kernel_rfl) (by kernel_rfl))), .pointer (some ⟨b', off' + q * 4, none⟩), ?_, rfl⟩
          have e34 : a.eval (.tmp 34) = .slice (some ⟨b', off', none⟩) n cap' := (c.new 17 34 (by kernel_rfl) (by kernel_rfl))
          have e35 : a.eval (.tmp 35) = .int .i64 (q : Int) := (c.new 18 35 (by kernel_rfl) (by kernel_rfl))
          generalize a.eval = ρ at e34 e35 ⊢
          simp [execOp, e34, e35, go_sem, j1, j2]
        · refine op_value fun a w c => ⟨(wanted_yes rfl (by kernel_rfl) (c.new 11 28 (by kernel_rfl) (by kernel_rfl))), .pointer (some ⟨b', off' + q * 4 + 1, none⟩), ?_, rfl⟩
          have e36 : a.eval (.tmp 36) = .pointer (some ⟨b', off' + q * 4, none⟩) := (c.new 19 36 (by kernel_rfl) (by kernel_rfl))
          generalize a.eval = ρ at e36 ⊢
          simp [execOp, e36, go_sem]
        · refine op_value fun a w c => ⟨(wanted_yes rfl (by kernel_rfl) (c.new 11 28 (by kernel_rfl) (by kernel_rfl))), .string ⟨xs.toArray⟩, ?_, rfl⟩
          have e37 : a.eval (.tmp 37) = .pointer (some ⟨b', off' + q * 4 + 1, none⟩) := (c.new 20 37 (by kernel_rfl) (by kernel_rfl))
          have hc := (c.ev.cell (p := ⟨_, _, none⟩) hbl').trans g1
          generalize a.eval = ρ at e37 ⊢
          simp [execOp, e37, hc, go_sem]
        · refine op_value fun a w c => ⟨(wanted_yes rfl (by kernel_rfl) (c.new 11 28 (by kernel_rfl) (by kernel_rfl))), .bool false, ?_, rfl⟩
          have e33 : a.eval (.tmp 33) = .string ⟨xs.toArray⟩ := (c.new 16 33 (by kernel_rfl) (by kernel_rfl))
          have e38 : a.eval (.tmp 38) = .string ⟨xs.toArray⟩ := (c.new 21 38 (by kernel_rfl) (by kernel_rfl))
          generalize a.eval = ρ at e33 e38 ⊢
          simp [execOp, e33, e38, go_sem]
        · refine op_value fun a w c => ⟨(wanted_plain rfl), _, run_pick_false rfl (c.new 11 28 (by kernel_rfl) (by kernel_rfl)) w, (c.new 22 39 (by kernel_rfl) (by kernel_rfl))⟩
        · refine op_value fun a w c => ⟨(wanted_plain rfl), _, run_move _ rfl w, (c.new 23 40 (by kernel_rfl) (by kernel_rfl))⟩
        · refine op_value fun a w c => ⟨(wanted_yes rfl (by kernel_rfl) (c.new 24 41 (by kernel_rfl) (by kernel_rfl))), _, run_move _ rfl w, (c.was 0 (by kernel_rfl) rfl)⟩
        · refine op_value fun a w c => ⟨(wanted_yes rfl (by kernel_rfl) (c.new 24 41 (by kernel_rfl) (by kernel_rfl))), _, run_move _ rfl w, (c.was 5 (by kernel_rfl) rfl)⟩
        · refine op_value fun a w c => ⟨(wanted_yes rfl (by kernel_rfl) (c.new 24 41 (by kernel_rfl) (by kernel_rfl))), .pointer (some ⟨b, off + q * 4, none⟩), ?_, rfl⟩
          have e42 : a.eval (.tmp 42) = .slice (some ⟨b, off, none⟩) n cap := (c.new 25 42 (by kernel_rfl) (by kernel_rfl))
          have e43 : a.eval (.tmp 43) = .int .i64 (q : Int) := (c.new 26 43 (by kernel_rfl) (by kernel_rfl))
          generalize a.eval = ρ at e42 e43 ⊢
          simp [execOp, e42, e43, go_sem, j1, j2]
        · refine op_value fun a w c => ⟨(wanted_yes rfl (by kernel_rfl) (c.new 24 41 (by kernel_rfl) (by kernel_rfl))), .pointer (some ⟨b, off + q * 4 + 2, none⟩), ?_, rfl⟩
          have e44 : a.eval (.tmp 44) = .pointer (some ⟨b, off + q * 4, none⟩) := (c.new 27 44 (by kernel_rfl) (by kernel_rfl))
          generalize a.eval = ρ at e44 ⊢
          simp [execOp, e44, go_sem]
        · refine op_value fun a w c => ⟨(wanted_yes rfl (by kernel_rfl) (c.new 24 41 (by kernel_rfl) (by kernel_rfl))), .int .i64 xv, ?_, rfl⟩
          have e45 : a.eval (.tmp 45) = .pointer (some ⟨b, off + q * 4 + 2, none⟩) := (c.new 28 45 (by kernel_rfl) (by kernel_rfl))
          have hc := (c.ev.cell (p := ⟨_, _, none⟩) hbl).trans e2
          generalize a.eval = ρ at e45 ⊢
          simp [execOp, e45, hc, go_sem]
        · refine op_value fun a w c => ⟨(wanted_yes rfl (by kernel_rfl) (c.new 24 41 (by kernel_rfl) (by kernel_rfl))), _, run_move _ rfl w, (c.was 1 (by kernel_rfl) rfl)⟩
        · refine op_value fun a w c => ⟨(wanted_yes rfl (by kernel_rfl) (c.new 24 41 (by kernel_rfl) (by kernel_rfl))), _, run_move _ rfl w, (c.was 5 (by kernel_rfl) rfl)⟩
        · refine op_value fun a w c => ⟨(wanted_yes rfl (by kernel_rfl) (c.new 24 41 (by kernel_rfl) (by kernel_rfl))), .pointer (some ⟨b', off' + q * 4, none⟩), ?_, rfl⟩
          have e47 : a.eval (.tmp 47) = .slice (some ⟨b', off', none⟩) n cap' := (c.new 30 47 (by kernel_rfl) (by kernel_rfl))
          have e48 : a.eval (.tmp 48) = .int .i64 (q : Int) := (c.new 31 48 (by kernel_rfl) (by kernel_rfl))
          generalize a.eval = ρ at e47 e48 ⊢
          simp [execOp, e47, e48, go_sem, j1, j2]
        · refine op_value fun a w c => ⟨(wanted_yes rfl (by kernel_rfl) (c.new 24 41 (by kernel_rfl) (by kernel_rfl))), .pointer (some ⟨b', off' + q * 4 + 2, none⟩), ?_, rfl⟩
          have e49 : a.eval (.tmp 49) = .pointer (some ⟨b', off' + q * 4, none⟩) := (c.new 32 49 (by kernel_rfl) (by kernel_rfl))
          generalize a.eval = ρ at e49 ⊢
          simp [execOp, e49, go_sem]
        · refine op_value fun a w c => ⟨(wanted_yes rfl (by kernel_rfl) (c.new 24 41 (by kernel_rfl) (by kernel_rfl))), .int .i64 xv, ?_, rfl⟩
          have e50 : a.eval (.tmp 50) = .pointer (some ⟨b', off' + q * 4 + 2, none⟩) := (c.new 33 50 (by kernel_rfl) (by kernel_rfl))
          have hc := (c.ev.cell (p := ⟨_, _, none⟩) hbl').trans g2
          generalize a.eval = ρ at e50 ⊢
          simp [execOp, e50, hc, go_sem]
        · refine op_value fun a w c => ⟨(wanted_yes rfl (by kernel_rfl) (c.new 24 41 (by kernel_rfl) (by kernel_rfl))), .bool false, ?_, rfl⟩
          have e46 : a.eval (.tmp 46) = .int .i64 xv := (c.new 29 46 (by kernel_rfl) (by kernel_rfl))
          have e51 : a.eval (.tmp 51) = .int .i64 xv := (c.new 34 51 (by kernel_rfl) (by kernel_rfl))
          generalize a.eval = ρ at e46 e51 ⊢
          simp [execOp, e46, e51, go_sem]
        · refine op_value fun a w c => ⟨(wanted_plain rfl), _, run_pick_false rfl (c.new 24 41 (by kernel_rfl) (by kernel_rfl)) w, (c.new 35 52 (by kernel_rfl) (by kernel_rfl))⟩
        · refine op_value fun a w c => ⟨(wanted_plain rfl), _, run_move _ rfl w, (c.new 36 53 (by kernel_rfl) (by kernel_rfl))⟩
        · refine op_value fun a w c => ⟨(wanted_yes rfl (by kernel_rfl) (c.new 37 54 (by kernel_rfl) (by kernel_rfl))), _, run_move _ rfl w, (c.was 0 (by kernel_rfl) rfl)⟩
        · refine op_value fun a w c => ⟨(wanted_yes rfl (by kernel_rfl) (c.new 37 54 (by kernel_rfl) (by kernel_rfl))), _, run_move _ rfl w, (c.was 5 (by kernel_rfl) rfl)⟩
        · refine op_value fun a w c => ⟨(wanted_yes rfl (by kernel_rfl) (c.new 37 54 (by kernel_rfl) (by kernel_rfl))), .pointer (some ⟨b, off + q * 4, none⟩), ?_, rfl⟩
          have e55 : a.eval (.tmp 55) = .slice (some ⟨b, off, none⟩) n cap := (c.new 38 55 (by kernel_rfl) (by kernel_rfl))
          have e56 : a.eval (.tmp 56) = .int .i64 (q : Int) := (c.new 39 56 (by kernel_rfl) (by kernel_rfl))
          generalize a.eval = ρ at e55 e56 ⊢
          simp [execOp, e55, e56, go_sem, j1, j2]
        · refine op_value fun a w c => ⟨(wanted_yes rfl (by kernel_rfl) (c.new 37 54 (by kernel_rfl) (by kernel_rfl))), .pointer (some ⟨b, off + q * 4 + 3, none⟩), ?_, rfl⟩
          have e57 : a.eval (.tmp 57) = .pointer (some ⟨b, off + q * 4, none⟩) := (c.new 40 57 (by kernel_rfl) (by kernel_rfl))
          generalize a.eval = ρ at e57 ⊢
          simp [execOp, e57, go_sem]
        · refine op_value fun a w c => ⟨(wanted_yes rfl (by kernel_rfl) (c.new 37 54 (by kernel_rfl) (by kernel_rfl))), .slice xA xn xc, ?_, rfl⟩
          have e58 : a.eval (.tmp 58) = .pointer (some ⟨b, off + q * 4 + 3, none⟩) := (c.new 41 58 (by kernel_rfl) (by kernel_rfl))
          have hc := (c.ev.cell (p := ⟨_, _, none⟩) hbl).trans e3
          generalize a.eval = ρ at e58 ⊢
          simp [execOp, e58, hc, go_sem]
        · refine op_value fun a w c => ⟨(wanted_yes rfl (by kernel_rfl) (c.new 37 54 (by kernel_rfl) (by kernel_rfl))), _, run_move _ rfl w, (c.was 1 (by kernel_rfl) rfl)⟩
        · refine op_value fun a w c => ⟨(wanted_yes rfl (by kernel_rfl) (c.new 37 54 (by kernel_rfl) (by kernel_rfl))), _, run_move _ rfl w, (c.was 5 (by kernel_rfl) rfl)⟩
        · refine op_value fun a w c => ⟨(wanted_yes rfl (by kernel_rfl) (c.new 37 54 (by kernel_rfl) (by kernel_rfl))), .pointer (some ⟨b', off' + q * 4, none⟩), ?_, rfl⟩
          have e60 : a.eval (.tmp 60) = .slice (some ⟨b', off', none⟩) n cap' := (c.new 43 60 (by kernel_rfl) (by kernel_rfl))
          have e61 : a.eval (.tmp 61) = .int .i64 (q : Int) := (c.new 44 61 (by kernel_rfl) (by kernel_rfl))
          generalize a.eval = ρ at e60 e61 ⊢
          simp [execOp, e60, e61, go_sem, j1, j2]
        · refine op_value fun a w c => ⟨(wanted_yes rfl (by kernel_rfl) (c.new 37 54 (by kernel_rfl) (by kernel_rfl))), .pointer (some ⟨b', off' + q * 4 + 3, none⟩), ?_, rfl⟩
          have e62 : a.eval (.tmp 62) = .pointer (some ⟨b', off' + q * 4, none⟩) := (c.new 45 62 (by kernel_rfl) (by kernel_rfl))
          generalize a.eval = ρ at e62 ⊢
          simp [execOp, e62, go_sem]
        · refine op_value fun a w c => ⟨(wanted_yes rfl (by kernel_rfl) (c.new 37 54 (by kernel_rfl) (by kernel_rfl))), .slice yA xn yc, ?_, rfl⟩
          have e63 : a.eval (.tmp 63) = .pointer (some ⟨b', off' + q * 4 + 3, none⟩) := (c.new 46 63 (by kernel_rfl) (by kernel_rfl))
          have hc := (c.ev.cell (p := ⟨_, _, none⟩) hbl').trans g3
          generalize a.eval = ρ at e63 ⊢
          simp [execOp, e63, hc, go_sem]
        · refine op_call fun a w c => ⟨(wanted_yes rfl (by kernel_rfl) (c.new 37 54 (by kernel_rfl) (by kernel_rfl))), 61, #[.slice xA xn xc, .slice yA xn yc], ?_, ?_⟩
          · rw [run_call 61 _ _ rfl (by kernel_rfl)]
            have e59 : a.eval (.tmp 59) = .slice xA xn xc := (c.new 42 59 (by kernel_rfl) (by kernel_rfl))
            have e64 : a.eval (.tmp 64) = .slice yA xn yc := (c.new 47 64 (by kernel_rfl) (by kernel_rfl))
            simp [e59, e64]
          · refine (HPx.out w c.ev).mono ?_
            rintro e w2 ⟨rfl, hE⟩
            exact ⟨_, rfl, hE, rfl⟩
        · refine op_value fun a w c => ⟨(wanted_yes rfl (by kernel_rfl) (c.new 37 54 (by kernel_rfl) (by kernel_rfl))), .bool false, ?_, rfl⟩
          have e65 : a.eval (.tmp 65) = .bool true := (c.new 48 65 (by kernel_rfl) (by kernel_rfl))
          generalize a.eval = ρ at e65 ⊢
          simp [execOp, e65, go_sem]
        · refine op_value fun a w c => ⟨(wanted_plain rfl), _, run_pick_false rfl (c.new 37 54 (by kernel_rfl) (by kernel_rfl)) w, (c.new 49 66 (by kernel_rfl) (by kernel_rfl))⟩
      intro sl wq hEr hold hnew
      have f0 : sl 0 = .slice (some ⟨b, off, none⟩) n cap := hold 0 (by kernel_rfl)
      have f1 : sl 1 = .slice (some ⟨b', off', none⟩) n cap' := hold 1 (by kernel_rfl)
      have f2 : sl 2 = undef := hold 2 (by kernel_rfl)
      have f3 : sl 3 = undef := hold 3 (by kernel_rfl)
      have f4 : sl 4 = u4 := hold 4 (by kernel_rfl)
      have f5 : sl 5 = .int .i64 (q : Int) := hold 5 (by kernel_rfl)
      have f6 : sl 6 = .slice (some ⟨b, off, none⟩) n cap := hold 6 (by kernel_rfl)
      have f7 : sl 7 = .int .i64 (n : Int) := hold 7 (by kernel_rfl)
      have f8 : sl 8 = .slice (some ⟨b', off', none⟩) n cap' := hold 8 (by kernel_rfl)
      have f9 : sl 9 = .int .i64 (n : Int) := hold 9 (by kernel_rfl)
      have f10 : sl 10 = .bool false := hold 10 (by kernel_rfl)
      have f11 : sl 11 = .int .i64 (q : Int) := hold 11 (by kernel_rfl)
      have f12 : sl 12 = .slice (some ⟨b, off, none⟩) n cap := hold 12 (by kernel_rfl)
      have f13 : sl 13 = .int .i64 (n : Int) := hold 13 (by kernel_rfl)
      have f14 : sl 14 = .bool true := hold 14 (by kernel_rfl)
      have f15 : sl 15 = u15 := hold 15 (by kernel_rfl)
      have f16 : sl 16 = u16 := hold 16 (by kernel_rfl)
      have f17 : sl 17 = .slice (some ⟨b, off, none⟩) n cap := hnew 0 17 (by kernel_rfl)
      have f18 : sl 18 = .int .i64 (q : Int) := hnew 1 18 (by kernel_rfl)
      have f19 : sl 19 = .pointer (some ⟨b, off + q * 4, none⟩) := hnew 2 19 (by kernel_rfl)
      have f20 : sl 20 = .pointer (some ⟨b, off + q * 4, none⟩) := hnew 3 20 (by kernel_rfl)
      have f21 : sl 21 = .int .i64 xk := hnew 4 21 (by kernel_rfl)
      have f22 : sl 22 = .slice (some ⟨b', off', none⟩) n cap' := hnew 5 22 (by kernel_rfl)
      have f23 : sl 23 = .int .i64 (q : Int) := hnew 6 23 (by kernel_rfl)
      have f24 : sl 24 = .pointer (some ⟨b', off' + q * 4, none⟩) := hnew 7 24 (by kernel_rfl)
      have f25 : sl 25 = .pointer (some ⟨b', off' + q * 4, none⟩) := hnew 8 25 (by kernel_rfl)
      have f26 : sl 26 = .int .i64 xk := hnew 9 26 (by kernel_rfl)
      have f27 : sl 27 = .bool false := hnew 10 27 (by kernel_rfl)
      have f28 : sl 28 = .bool false := hnew 11 28 (by kernel_rfl)
      have f29 : sl 29 = .slice (some ⟨b, off, none⟩) n cap := hnew 12 29 (by kernel_rfl)
      have f30 : sl 30 = .int .i64 (q : Int) := hnew 13 30 (by kernel_rfl)
      have f31 : sl 31 = .pointer (some ⟨b, off + q * 4, none⟩) := hnew 14 31 (by kernel_rfl)
      have f32 : sl 32 = .pointer (some ⟨b, off + q * 4 + 1, none⟩) := hnew 15 32 (by kernel_rfl)
      have f33 : sl 33 = .string ⟨xs.toArray⟩ := hnew 16 33 (by kernel_rfl)
      have f34 : sl 34 = .slice (some ⟨b', off', none⟩) n cap' := hnew 17 34 (by kernel_rfl)
      have f35 : sl 35 = .int .i64 (q : Int) := hnew 18 35 (by kernel_rfl)
      have f36 : sl 36 = .pointer (some ⟨b', off' + q * 4, none⟩) := hnew 19 36 (by kernel_rfl)
      have f37 : sl 37 = .pointer (some ⟨b', off' + q * 4 + 1, none⟩) := hnew 20 37 (by kernel_rfl)
      have f38 : sl 38 = .string ⟨xs.toArray⟩ := hnew 21 38 (by kernel_rfl)
      have f39 : sl 39 = .bool false := hnew 22 39 (by kernel_rfl)
      have f40 : sl 40 = .bool false := hnew 23 40 (by kernel_rfl)
      have f41 : sl 41 = .bool false := hnew 24 41 (by kernel_rfl)
      have f42 : sl 42 = .slice (some ⟨b, off, none⟩) n cap := hnew 25 42 (by kernel_rfl)
      have f43 : sl 43 = .int .i64 (q : Int) := hnew 26 43 (by kernel_rfl)
      have f44 : sl 44 = .pointer (some ⟨b, off + q * 4, none⟩) := hnew 27 44 (by kernel_rfl)
      have f45 : sl 45 = .pointer (some ⟨b, off + q * 4 + 2, none⟩) := hnew 28 45 (by kernel_rfl)
      have f46 : sl 46 = .int .i64 xv := hnew 29 46 (by kernel_rfl)
      have f47 : sl 47 = .slice (some ⟨b', off', none⟩) n cap' := hnew 30 47 (by kernel_rfl)
      have f48 : sl 48 = .int .i64 (q : Int) := hnew 31 48 (by kernel_rfl)
      have f49 : sl 49 = .pointer (some ⟨b', off' + q * 4, none⟩) := hnew 32 49 (by kernel_rfl)
      have f50 : sl 50 = .pointer (some ⟨b', off' + q * 4 + 2, none⟩) := hnew 33 50 (by kernel_rfl)
      have f51 : sl 51 = .int .i64 xv := hnew 34 51 (by kernel_rfl)
      have f52 : sl 52 = .bool false := hnew 35 52 (by kernel_rfl)
      have f53 : sl 53 = .bool false := hnew 36 53 (by kernel_rfl)
      have f54 : sl 54 = .bool false := hnew 37 54 (by kernel_rfl)
      have f55 : sl 55 = .slice (some ⟨b, off, none⟩) n cap := hnew 38 55 (by kernel_rfl)
      have f56 : sl 56 = .int .i64 (q : Int) := hnew 39 56 (by kernel_rfl)
      have f57 : sl 57 = .pointer (some ⟨b, off + q * 4, none⟩) := hnew 40 57 (by kernel_rfl)
      have f58 : sl 58 = .pointer (some ⟨b, off + q * 4 + 3, none⟩) := hnew 41 58 (by kernel_rfl)
      have f59 : sl 59 = .slice xA xn xc := hnew 42 59 (by kernel_rfl)
      have f60 : sl 60 = .slice (some ⟨b', off', none⟩) n cap' := hnew 43 60 (by kernel_rfl)
      have f61 : sl 61 = .int .i64 (q : Int) := hnew 44 61 (by kernel_rfl)
      have f62 : sl 62 = .pointer (some ⟨b', off' + q * 4, none⟩) := hnew 45 62 (by kernel_rfl)
      have f63 : sl 63 = .pointer (some ⟨b', off' + q * 4 + 3, none⟩) := hnew 46 63 (by kernel_rfl)
      have f64 : sl 64 = .slice yA xn yc := hnew 47 64 (by kernel_rfl)
      have f65 : sl 65 = .bool true := hnew 48 65 (by kernel_rfl)
      have f66 : sl 66 = .bool false := hnew 49 66 (by kernel_rfl)
      have f67 : sl 67 = .bool false := hnew 50 67 (by kernel_rfl)
      change Exit.then _ _ .normal ⟨#[sl 0, sl 1, sl 2, sl 3, sl 4, sl 5, sl 6, sl 7, sl 8, sl 9, sl 10, sl 11, sl 12, sl 13, sl 14, sl 15, sl 16, sl 17, sl 18, sl 19, sl 20, sl 21, sl 22, sl 23, sl 24, sl 25, sl 26, sl 27, sl 28, sl 29, sl 30, sl 31, sl 32, sl 33, sl 34, sl 35, sl 36, sl 37, sl 38, sl 39, sl 40, sl 41, sl 42, sl 43, sl 44, sl 45, sl 46, sl 47, sl 48, sl 49, sl 50, sl 51, sl 52, sl 53, sl 54, sl 55, sl 56, sl 57, sl 58, sl 59, sl 60, sl 61, sl 62, sl 63, sl 64, sl 65, sl 66, sl 67], _⟩ _
      simp only [f0, f1, f2, f3, f4, f5, f6, f7, f8, f9, f10, f11, f12, f13, f14, f15, f16, f17, f18, f19, f20, f21, f22, f23, f24, f25, f26, f27, f28, f29, f30, f31, f32, f33, f34, f35, f36, f37, f38, f39, f40, f41, f42, f43, f44, f45, f46, f47, f48, f49, f50, f51, f52, f53, f54, f55, f56, f57, f58, f59, f60, f61, f62, f63, f64, f65, f66, f67]
      clear hold hnew
      go_wp2
      go_roundw
      case rel => exact ⟨q + 1, by omega, by go_num, hE.trans hEr⟩
      case measure => simp [intOf]; omega
    · obtain rfl : q = n := by omega
      go_wp2
      go_ret
      exact ⟨rfl, hE⟩
theorem ref9_exprs (N : Nat) : E9At N := by
  induction N using Nat.strongRecOn with
  | ind N ih => exact ref9_exprs_step N ih
end Go.Proofs.YtojbahjebfcmgaaGreatDoor

namespace Go.Proofs.YtojbahjebfcmgaaGreatDoor
open Go.RowKit
set_option linter.unusedVariables false

/-- What stands at a leaf's first byte. -/
def leafOk (l : By) (k : Int) (s : By) (n : Int) (b : Nat) : Prop :=
  ∃ c, l[b]? = some c ∧ ((k = 2 ∧ 97 ≤ c.toNat ∧ c.toNat ≤ 122 ∧ ∃ q, s = c :: q) ∨ (k = 3 ∧ (c.toNat = 45 ∧ n ≤ 0 ∨ 48 ≤ c.toNat ∧ c.toNat ≤ 57 ∧ 0 ≤ n)) ∨ (k = 4 ∧ c.toNat = 34))
mutual
/-- A tree stands from b to e. -/
inductive Span (l : By) : T → Nat → Nat → Prop
  | leaf {k : Int} {s : By} {n : Int} {b e : Nat} : leafOk l k s n b → b < e → e ≤ l.length → Span l (.mk k s n [] b) b e
  | opn {s : By} {n : Int} {ks : List T} {b e e1 : Nat} {c : UInt8} : l[b]? = some c → c.toNat = 40 → Chain l ks (b + 1) e1 → b + 1 ≤ e1 → e1 < e → e ≤ l.length → Span l (.mk 1 s n ks b) b e
/-- Trees stand one behind the other from b to e. -/
inductive Chain (l : By) : List T → Nat → Nat → Prop
  | nil {b e : Nat} : b ≤ e → Chain l [] b e
  | cons {b tb te e : Nat} {t : T} {ks : List T} : b ≤ tb → Span l t tb te → Chain l ks te e → Chain l (t :: ks) b e
end
theorem Span.pos {l : By} {t : T} {b e : Nat} (h : Span l t b e) : t.pos = b ∧ b < e ∧ e ≤ l.length ∧ ∃ c, l[b]? = some c := by
  cases h with
  | leaf h1 h2 h3 =>
    obtain ⟨c, hc, _⟩ := h1
    exact ⟨rfl, h2, h3, c, hc⟩
  | opn h1 h2 h3 h4 h5 h6 => exact ⟨rfl, by omega, h6, _, h1⟩
theorem Chain.le {l : By} : ∀ {ks : List T} {b e : Nat}, Chain l ks b e → b ≤ e
  | [], b, e, h => by cases h with | nil h => exact h
  | t :: ks, b, e, h => by
    cases h with
    | cons h1 h2 h3 =>
      have := h2.pos
      have := Chain.le h3
      omega
theorem Chain.wider {l : By} : ∀ {ks : List T} {b e e' : Nat}, Chain l ks b e → e ≤ e' → Chain l ks b e'
  | [], b, e, e', h, he => by cases h with | nil h => exact .nil (by omega)
  | t :: ks, b, e, e', h, he => by
    cases h with
    | cons h1 h2 h3 => exact .cons h1 h2 (Chain.wider h3 he)
theorem Chain.snoc {l : By} : ∀ {ks : List T} {b x tb te : Nat} {t : T}, Chain l ks b x → x ≤ tb → Span l t tb te → Chain l (ks ++ [t]) b te
  | [], b, x, tb, te, t, h, hx, ht => by cases h with | nil h => exact .cons (by omega) ht (.nil (Nat.le_refl _))
  | t' :: ks, b, x, tb, te, t, h, hx, ht => by
    cases h with
    | cons h1 h2 h3 => exact .cons h1 h2 (Chain.snoc h3 hx ht)
theorem Chain.at {l : By} : ∀ {ks : List T} {b e : Nat}, Chain l ks b e → ∀ i t, ks[i]? = some t → ∃ te, Span l t t.pos te ∧ b ≤ t.pos ∧ te ≤ e ∧ ∀ t', ks[i + 1]? = some t' → te ≤ t'.pos ∧ t'.pos < e
  | [], b, e, h, i, t, hi => by simp at hi
  | a :: ks, b, e, h, 0, t, hi => by
    simp at hi
    subst hi
    cases h with
    | cons h1 h2 h3 =>
      have hp := h2.pos
      rw [← hp.1] at h2 h1
      refine ⟨_, h2, h1, h3.le, fun t' ht' => ?_⟩
      cases ks with
      | nil => simp at ht'
      | cons b ks =>
        simp at ht'
        subst ht'
        cases h3 with
        | cons g1 g2 g3 =>
          have := g2.pos
          have := g3.le
          omega
  | a :: ks, b, e, h, i + 1, t, hi => by
    cases h with
    | cons h1 h2 h3 =>
      obtain ⟨te, g1, g2, g3, g4⟩ := Chain.at h3 i t (by simpa using hi)
      have := h2.pos
      exact ⟨te, g1, by omega, g3, fun t' ht' => g4 t' (by simpa using ht')⟩

/-- What is open, the innermost first: its Kids stand in their order up to where one reads. -/
def Stk (l : By) : List T → Nat → Prop
  | [], _ => False
  | [e], cur => Chain l e.kids 0 cur
  | e :: e' :: r, cur => e.kind = 1 ∧ (∃ c, l[e.pos]? = some c ∧ c.toNat = 40) ∧ Chain l e.kids (e.pos + 1) cur ∧ e.pos + 1 ≤ cur ∧ Stk l (e' :: r) e.pos
theorem Stk.wider {l : By} : ∀ {os : List T} {cur cur' : Nat}, Stk l os cur → cur ≤ cur' → Stk l os cur'
  | [], _, _, h, _ => h.elim
  | [e], cur, cur', h, hc => Chain.wider h hc
  | e :: e' :: r, cur, cur', h, hc => ⟨h.1, h.2.1, h.2.2.1.wider hc, by have := h.2.2.2.1; omega, h.2.2.2.2⟩
theorem Stk.put {l : By} {e : T} {r : List T} {i j te : Nat} {t : T} (h : Stk l (e :: r) i) (hij : i ≤ j) (ht : Span l t j te) : Stk l (e.add t :: r) te := by
  have hte := ht.pos
  cases r with
  | nil => exact Chain.snoc (show Chain l e.kids 0 i from h) hij ht
  | cons e' r => exact ⟨h.1, h.2.1, (h.2.2.1).snoc hij ht, by have := h.2.2.2.1; show e.pos + 1 ≤ te; omega, h.2.2.2.2⟩
theorem sxPut_rev (os : List T) (e : T) (r : List T) (t : T) (h : os.reverse = e :: r) : (sxPut os t).reverse = e.add t :: r := by
  have : os = r.reverse ++ [e] := by rw [← List.reverse_reverse os, h, List.reverse_cons]
  rw [this, sxPut_snoc]
  simp
theorem Stk.take {l : By} {os : List T} {i j : Nat} {c : UInt8} {x : Tk} (h : Stk l os.reverse i) (hij : i ≤ j) (hc : l[j]? = some c) (hok : ScanOk c (l.drop j) x) (hw : x.why = 0) (hk : x.kind = -1 → os.length ≠ 1) :
    Stk l (sxTake os (x.tree j)).reverse (j + x.size) := by
  obtain ⟨h1, h2, h3⟩ := hok.good hw
  have hjl := (List.getElem?_eq_some_iff.1 hc).1
  rw [List.length_drop] at h2
  have htk : (x.tree j).kind = x.kind := rfl
  unfold sxTake
  rw [htk]
  cases hr : os.reverse with
  | nil => rw [hr] at h; exact h.elim
  | cons e r =>
    rw [hr] at h
    by_cases k1 : x.kind = 1
    · rw [if_pos (by rw [k1]; rfl), List.reverse_append, hr]
      have hc40 : c.toNat = 40 := by
        rcases h3 with ⟨_, h4⟩ | h4 | ⟨h4, _⟩ | ⟨h4, _⟩ | ⟨h4, _⟩
        · exact h4
        · rw [k1] at h4; cases h4
        · rw [k1] at h4; cases h4
        · rw [k1] at h4; cases h4
        · rw [k1] at h4; cases h4
      exact ⟨k1, ⟨c, hc, hc40⟩, .nil (by show j + 1 ≤ j + x.size; omega), by show j + 1 ≤ j + x.size; omega, h.wider hij⟩
    · rw [if_neg (by simpa using k1)]
      by_cases k2 : x.kind = -1
      · rw [if_pos (by rw [k2]; rfl)]
        have hos : os = r.reverse ++ [e] := by rw [← List.reverse_reverse os, hr, List.reverse_cons]
        have hgl : os.getLast? = some e := by rw [hos]; simp
        have hdl : os.dropLast = r.reverse := by rw [hos]; simp
        rw [hgl, hdl]
        simp only []
        cases r with
        | nil =>
          exfalso
          apply hk k2
          rw [hos]; rfl
        | cons e' r =>
          obtain ⟨g1, ⟨c', g2, g3⟩, g4, g5, g6⟩ := h
          have hsp : Span l e e.pos (j + x.size) := by
            obtain ⟨k, s, n, ks, p⟩ := e
            simp only [T.kind] at g1
            subst g1
            exact .opn g2 g3 g4 g5 (by omega) (by omega)
          rw [sxPut_rev (e' :: r).reverse e' r e (by simp)]
          exact g6.put (Nat.le_refl _) hsp
      · rw [if_neg (by simpa using k2), sxPut_rev os e r _ hr]
        refine h.put hij (.leaf ⟨c, hc, ?_⟩ (by omega) (by omega))
        rcases h3 with ⟨h4, _⟩ | h4 | h4 | h4 | h4
        · exact absurd h4 k1
        · exact absurd h4 k2
        · exact .inl h4
        · exact .inr (.inl h4)
        · exact .inr (.inr h4)
end Go.Proofs.YtojbahjebfcmgaaGreatDoor

namespace Go.Proofs.YtojbahjebfcmgaaGreatDoor
open Go.RowKit
set_option linter.unusedVariables false

theorem tree_box (w : World) (m : M) : (w.alloc (.cells #[.int .i64 m.kind, .string ⟨m.s.toArray⟩, .int .i64 m.n, .slice m.A m.kids.length m.cap, .int .i64 (m.pos : Int)] 67)).heap[w.heap.size]? = some (.cells (mc m).toArray 67 (0, 0)) := heap_alloc_new _ _
theorem box_cells {w : World} {g : Nat} {m : M} (h : w.heap[g]? = some (.cells (mc m).toArray 67 (0, 0))) : w.cell? ⟨g, 0, none⟩ = some (.int .i64 m.kind) ∧ w.cell? ⟨g, 1, none⟩ = some (.string ⟨m.s.toArray⟩) ∧ w.cell? ⟨g, 2, none⟩ = some (.int .i64 m.n) ∧ w.cell? ⟨g, 3, none⟩ = some (.slice m.A m.kids.length m.cap) ∧ w.cell? ⟨g, 4, none⟩ = some (.int .i64 (m.pos : Int)) := by
  refine ⟨?_, ?_, ?_, ?_, ?_⟩ <;> (rw [Lib.cell_of_heap h]; rfl)
theorem box_ev {w w' : World} {g : Nat} {o : Obj} (h : w.heap[g]? = some o) (hE : Ev w w') : w'.heap[g]? = some o := by
  rw [hE.block g (Array.getElem?_eq_some_iff.1 h).1]; exact h

end Go.Proofs.YtojbahjebfcmgaaGreatDoor

namespace Go.Proofs.YtojbahjebfcmgaaGreatDoor
open Go.RowKit
set_option linter.unusedVariables false

def rfPop (os : List T) : List T := match os.getLast? with | none => os | some e => sxPut os.dropLast e
abbrev RT : TypeId := 126
theorem encM : Enc 5 mc := ⟨by omega, fun _ => rfl, fun x u hu => mlist_ones [x] u (by rw [mlist_one_]; exact hu)⟩
theorem Ow.low {α : Type} {k : Nat} {enc : α → List Value} {et : TypeId} {b0 b : Nat} {w : World} {v : Value} {Z : List α} (h : Ow et k enc b w v Z) (hb : b0 ≤ b) : Ow et k enc b0 w v Z :=
  ⟨h.1, h.2.imp id fun ⟨g, cap, cur, h1, h2, r⟩ => ⟨g, cap, cur, h1, Nat.le_trans hb h2, r⟩⟩
/-- In the midst of reading: the list of what is open lies in block g. -/
structure RfSt (w0 : World) (g q cap : Nat) (os : List M) (i : Nat) (w : World) : Prop where
  own : Ow 126 5 mc (w0.heap.size + 1) w (.slice (some ⟨g, 0, none⟩) (q + 1) cap) os
  len : os.length = q + 1
  lies : ∀ e ∈ os, Lies (w0.heap.size + 1) [g] w e
  ev : Ev w0 w
  box : Bx 126 w0.heap.size #[.int .i64 0, .string ⟨#[]⟩, .int .i64 0, .slice none 0 0, .int .i64 0] w
  few : os.length ≤ i + 1
  kids : ∀ e ∈ os, e.kids.length ≤ i
theorem RfSt.wider {w0 w : World} {g q cap i i' : Nat} {os : List M} (h : RfSt w0 g q cap os i w) (hi : i ≤ i') : RfSt w0 g q cap os i' w :=
  ⟨h.own, h.len, h.lies, h.ev, h.box, by have := h.few; omega, fun e he => by have := h.kids e he; omega⟩
theorem RfSt.evs {w0 w w' : World} {g q cap i : Nat} {os : List M} (h : RfSt w0 g q cap os i w) (hE : Ev w w') : RfSt w0 g q cap os i w' :=
  ⟨h.own.ev hE, h.len, fun e he => (h.lies e he).ev hE, h.ev.trans hE, h.box.ev hE, h.few, h.kids⟩
theorem RfSt.at {w0 w : World} {g q cap i : Nat} {os : List M} (h : RfSt w0 g q cap os i w) : w0.heap.size + 1 ≤ g ∧ g < w.heap.size ∧ q + 1 ≤ cap ∧ cap ≤ 9223372036854775807 ∧ (∀ i, w.frozen? ⟨g, i, none⟩ = false) ∧
    ∀ i x, os[i]? = some x → w.cell? ⟨g, i * 5, none⟩ = some (.int .i64 x.kind) ∧ w.cell? ⟨g, i * 5 + 1, none⟩ = some (.string ⟨x.s.toArray⟩) ∧ w.cell? ⟨g, i * 5 + 2, none⟩ = some (.int .i64 x.n) ∧ w.cell? ⟨g, i * 5 + 3, none⟩ = some x.kv ∧ w.cell? ⟨g, i * 5 + 4, none⟩ = some (.int .i64 (x.pos : Int)) := by
  obtain ⟨A, cap', hv, hS, hA⟩ := h.own.form encM
  injection hv with h1 h2 h3
  subst h1; subst h3
  obtain ⟨_, h4, h5, _, h6⟩ := hA _ rfl
  have hle := hS.le
  rw [h.len] at hle
  refine ⟨h4, h5, hle, hS.max, h6, fun i x hx => ?_⟩
  obtain ⟨b, off, e, _, hc⟩ := hS.rd (by rw [h.len]; omega)
  injection e with e
  injection e with e1 e2 _
  subst e1; subst e2
  have key : ∀ j u, (mc x)[j]? = some u → w.cell? ⟨g, i * 5 + j, none⟩ = some u := fun j u hu => by
    have := hc i x hx j u hu
    rwa [Nat.zero_add] at this
  exact ⟨key 0 _ rfl, key 1 _ rfl, key 2 _ rfl, key 3 _ rfl, key 4 _ rfl⟩
theorem RfSt.pop {w0 w : World} {g q cap i : Nat} {os : List M} {e : M} (h : RfSt w0 g (q + 1) cap (os ++ [e]) i w) : RfSt w0 g q cap os i w := by
  have hl : os.length = q + 1 := by have := h.len; simp at this; omega
  refine ⟨?_, hl, fun e he => h.lies e (List.mem_append_left _ he), h.ev, h.box, by have := h.few; simp at this; omega, fun e he => h.kids e (List.mem_append_left _ he)⟩
  have := h.own.to encM rfl (q + 1) (by simp; omega)
  rwa [← hl, List.take_left' rfl, hl] at this
theorem RfSt.push {w0 w W : World} {g q cap i i' : Nat} {os : List M} {m : M} (h : RfSt w0 g q cap os i w) (hE : Ev w W) {v : Value} (hv : Ow 126 5 mc w.heap.size W v (os ++ [m])) (hm : ∀ w K, Lies (w0.heap.size + 1) K w m) (hk : m.kids = []) (hi : i < i') :
    ∃ g' cap', v = .slice (some ⟨g', 0, none⟩) (q + 1 + 1) cap' ∧ RfSt w0 g' (q + 1) cap' (os ++ [m]) i' W := by
  have hl : (os ++ [m]).length = q + 1 + 1 := by have := h.len; simp; omega
  obtain ⟨A, cap', hvv, hS, hA⟩ := hv.form encM
  subst hvv
  rw [hl] at hv hS hA ⊢
  obtain ⟨b, off, rfl, _, _⟩ := hS.rd (by omega)
  obtain ⟨_, h3, h4, h5, _⟩ := hA _ rfl
  simp at h5
  subst h5
  have hg := h.at
  simp at h3
  have hb0 : w0.heap.size + 1 ≤ w.heap.size := by have := hg.1; have := hg.2.1; omega
  refine ⟨b, cap', rfl, ⟨hv.low hb0, hl, ?_, h.ev.trans hE, h.box.ev hE, by have := h.few; simp; omega, ?_⟩⟩
  · intro e he
    rcases List.mem_append.1 he with h1 | h1
    · exact (h.lies e h1).move (But.of_ev (K := [g]) hE) fun x hx => by
        simp at hx
        subst hx
        exact .inr (.inr h3)
    · simp at h1
      subst h1
      exact hm _ _
  · intro e he
    rcases List.mem_append.1 he with h1 | h1
    · have := h.kids e h1; omega
    · simp at h1
      subst h1
      rw [hk]; simp

theorem RfSt.init (w : World) : RfSt w (w.heap.size + 1) 0 1 [mzero] 0 ((w.alloc (.cells #[.int .i64 0, .string ⟨#[]⟩, .int .i64 0, .slice none 0 0, .int .i64 0] 126)).alloc (.cells #[.int .i64 0, .string ⟨#[]⟩, .int .i64 0, .slice none 0 0, .int .i64 0] 126)) := by
  have hE := Ev.alloc w (.cells #[.int .i64 0, .string ⟨#[]⟩, .int .i64 0, .slice none 0 0, .int .i64 0] 126)
  refine ⟨?_, rfl, fun e he => ?_, hE.trans (Ev.alloc _ _), (Bx.new _ _ w).ev (Ev.alloc _ _), by simp, fun e he => ?_⟩
  · have := Ow.made (et := 126) (base := w.heap.size + 1) encM (w.alloc (.cells #[.int .i64 0, .string ⟨#[]⟩, .int .i64 0, .slice none 0 0, .int .i64 0] 126)) [mzero] #[.int .i64 0, .string ⟨#[]⟩, .int .i64 0, .slice none 0 0, .int .i64 0] rfl (by simp) (by simp)
    simpa using this
  · simp at he
    subst he
    exact Lies.zero _ _ _
  · simp at he
    subst he
    simp [mzero, M.kids]
/-- An empty literal in memory. -/
def Empty0 (et : TypeId) (b : Nat) (v : Value) (w : World) : Prop := ∃ g, v = .slice (some ⟨g, 0, none⟩) 0 0 ∧ w.heap[g]? = some (.cells #[] et (0, 0)) ∧ b ≤ g
theorem Empty0.mono {et : TypeId} {b : Nat} : Mono (Empty0 et b) := fun v w w' hE ⟨g, h1, h2, h3⟩ => ⟨g, h1, by rw [hE.block g (Array.getElem?_eq_some_iff.1 h2).1]; exact h2, h3⟩
theorem Empty0.new {et : TypeId} {b : Nat} {w : World} (h : b ≤ w.heap.size) : Empty0 et b (.slice (some ⟨w.heap.size, 0, none⟩) 0 0) (w.alloc (.cells #[] et)) := ⟨_, rfl, heap_alloc_new w _, h⟩
end Go.Proofs.YtojbahjebfcmgaaGreatDoor
