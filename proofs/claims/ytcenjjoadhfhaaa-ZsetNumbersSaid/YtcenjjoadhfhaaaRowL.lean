/-
  The contracts of package row: Columns, Fits, Less.
-/
import Derived.Test.YtcenjjoadhfhaaaRowN
import Derived.Deep.Cut
namespace Go.Proofs.Ytcenjjoadhfhaaa
open Go.RowKit
set_option linter.unusedVariables false

set_option maxRecDepth 100000 in
set_option maxHeartbeats 4000000 in
theorem row_less {A B : Option Addr} {n m cap cap' : Nat} {a b : List V} (w : World) (h : Vs w A n cap a) (h' : Vs w B m cap' b) :
    Calls Try.prog 28 #[.slice A n cap, .slice B m cap'] w fun e w' => e = .returned (.bool (lessR a b)) ∧ Ev w w' := by
  have hn := h.le
  have hm := h.max
  have hn' := h'.le
  have hm' := h'.max
  have HL := Lib.hid h.len
  have HM := Lib.hid h'.len
  have HR := Lib.hid (fun w1 (h1 : Vs w1 A n cap a) => row_right w1 h1)
  have HR' := Lib.hid (fun w1 (h1 : Vs w1 B m cap' b) => row_right w1 h1)
  have HS := Lib.hid (fun w1 (h1 : Vs w1 A n cap a) (h2 : Vs w1 B m cap' b) => row_shared w1 h1 h2)
  have hmix : Try.prog.follows .mixedOrders = true := by kernel_rfl
  unfold lessR
  generalize rightR a = r at *
  generalize rightR b = r' at *
  cases r
  · go_enter Try.func28, Try.ntmps28
    go_wp2_with (first | ((with_reducible refine (HR.out _ h).mono ?_); rintro x w1 ⟨rfl, hE1⟩))
    go_ret
    exact ⟨rfl, hE1⟩
  · cases r'
    · go_enter Try.func28, Try.ntmps28
      go_wp2_with (first | ((with_reducible refine (HR.out _ h).mono ?_); rintro x w1 ⟨rfl, hE1⟩) | ((with_reducible refine (HR'.out _ (h'.ev hE1)).mono ?_); rintro x w2 ⟨rfl, hE2⟩))
      go_ret
      exact ⟨rfl, hE1.trans hE2⟩
    · simp only [Bool.and_self, if_true]
      go_enter Try.func28, Try.ntmps28
      go_upto_region 4 with (first | ((with_reducible refine (HR.out _ h).mono ?_); rintro x w1 ⟨rfl, hE1⟩) | ((with_reducible refine (HR'.out _ (h'.ev hE1)).mono ?_); rintro x w2 ⟨rfl, hE2⟩) | ((with_reducible refine (HS.out _ (h.ev (hE1.trans hE2)) (h'.ev (hE1.trans hE2))).mono ?_); rintro x w3 ⟨⟨i, rfl, HI⟩, hE3⟩; replace HI := Lib.hid HI; have hE := (hE1.trans hE2).trans hE3))
      have hi1 : i ≤ n := by rw [← HL.out]; exact HI.out.le
      have hi2 : i ≤ m := by rw [← HM.out]; exact HI.out.le'
      by_cases ha : i < n
      · have i2 : (i : Int) < (n : Int) := by omega
        by_cases hb : i < m
        · have i3 : (i : Int) < (m : Int) := by omega
          obtain ⟨b1, off, ⟨xk, xn, xs⟩, rfl, hb1, hx, c0, c1, c2⟩ := (h.ev hE).vcell ha
          obtain ⟨b2, off', ⟨yk, yn, ys⟩, rfl, hb2, hy, d0, d1, d2⟩ := (h'.ev hE).vcell hb
          have i1 : (0 : Int) ≤ (i : Int) := by omega
          simp only at c0 c1 c2 d0 d1 d2
          have HF := Lib.hid (lessL_at HI.out.same hx hy (HI.out.differ _ _ hx hy))
          obtain ⟨x, hx⟩ : ∃ x, lessV xk xn xs yk yn ys = x := ⟨_, rfl⟩
          have HX := Lib.hid hx
          clear hx hy
          go_wp2_with fail
          refine wp_region_slots hmix [fun v _ => v = .slice (some ⟨b1, off, none⟩) n cap, fun v _ => v = .int .i64 (i : Int), fun v _ => v = .pointer (some ⟨b1, off + i * 3, none⟩), fun v _ => v = vv xk xn xs, fun v _ => v = .slice (some ⟨b2, off', none⟩) m cap', fun v _ => v = .int .i64 (i : Int), fun v _ => v = .pointer (some ⟨b2, off' + i * 3, none⟩), fun v _ => v = vv yk yn ys, fun v _ => v = .bool x, fun v _ => v = .bool x]
            41 rfl (by kernel_rfl) ⟨mono_eq _, mono_eq _, mono_eq _, mono_eq _, mono_eq _, mono_eq _, mono_eq _, mono_eq _, mono_eq _, mono_eq _, trivial⟩ ?_ ?_
          · refine ops_cons 0 ?_ (ops_cons 1 ?_ (ops_cons 2 ?_ (ops_cons 3 ?_ (ops_cons 4 ?_ (ops_cons 5 ?_ (ops_cons 6 ?_ (ops_cons 7 ?_ (ops_cons 8 ?_ (ops_cons 9 ?_ (ops_nil 10))))))))))
            · refine op_value fun a w c => ⟨(wanted_plain rfl), _, run_move _ rfl w, (c.was 0 (by kernel_rfl) rfl)⟩
            · refine op_value fun a w c => ⟨(wanted_plain rfl), _, run_move _ rfl w, (c.was 5 (by kernel_rfl) rfl)⟩
            · refine op_value fun a w c => ⟨(wanted_plain rfl), .pointer (some ⟨b1, off + i * 3, none⟩), ?_, rfl⟩
              have e27 : a.eval (.tmp 27) = .slice (some ⟨b1, off, none⟩) n cap := (c.new 0 27 (by kernel_rfl) (by kernel_rfl))
              have e28 : a.eval (.tmp 28) = .int .i64 (i : Int) := (c.new 1 28 (by kernel_rfl) (by kernel_rfl))
              generalize a.eval = ρ at e27 e28 ⊢
              simp [execOp, e27, e28, go_sem, i1, i2]
            · refine op_value fun a w c => ⟨(wanted_plain rfl), _, run_load_elem rfl ((c.new 2 29 (by kernel_rfl) (by kernel_rfl)) : a.eval (.tmp 29) = .pointer (some ⟨b1, off + i * 3, none⟩)) ((c.ev.cell (p := ⟨_, _, none⟩) hb1).trans c0) ((c.ev.cell (p := ⟨_, _, none⟩) hb1).trans c1) ((c.ev.cell (p := ⟨_, _, none⟩) hb1).trans c2), rfl⟩
            · refine op_value fun a w c => ⟨(wanted_plain rfl), _, run_move _ rfl w, (c.was 1 (by kernel_rfl) rfl)⟩
            · refine op_value fun a w c => ⟨(wanted_plain rfl), _, run_move _ rfl w, (c.was 5 (by kernel_rfl) rfl)⟩
            · refine op_value fun a w c => ⟨(wanted_plain rfl), .pointer (some ⟨b2, off' + i * 3, none⟩), ?_, rfl⟩
              have e31 : a.eval (.tmp 31) = .slice (some ⟨b2, off', none⟩) m cap' := (c.new 4 31 (by kernel_rfl) (by kernel_rfl))
              have e32 : a.eval (.tmp 32) = .int .i64 (i : Int) := (c.new 5 32 (by kernel_rfl) (by kernel_rfl))
              generalize a.eval = ρ at e31 e32 ⊢
              simp [execOp, e31, e32, go_sem, i1, i3]
            · refine op_value fun a w c => ⟨(wanted_plain rfl), _, run_load_elem rfl ((c.new 6 33 (by kernel_rfl) (by kernel_rfl)) : a.eval (.tmp 33) = .pointer (some ⟨b2, off' + i * 3, none⟩)) ((c.ev.cell (p := ⟨_, _, none⟩) hb2).trans d0) ((c.ev.cell (p := ⟨_, _, none⟩) hb2).trans d1) ((c.ev.cell (p := ⟨_, _, none⟩) hb2).trans d2), rfl⟩
            · refine op_call fun a w c => ⟨(wanted_plain rfl), 46, #[vv xk xn xs, vv yk yn ys], ?_, ?_⟩
              · rw [run_call 46 _ _ rfl (by kernel_rfl)]
                have e30 : a.eval (.tmp 30) = vv xk xn xs := (c.new 3 30 (by kernel_rfl) (by kernel_rfl))
                have e34 : a.eval (.tmp 34) = vv yk yn ys := (c.new 7 34 (by kernel_rfl) (by kernel_rfl))
                simp [e30, e34]
              · refine (value_less _ _ _ _ _ _ w).mono ?_
                rintro e w2 ⟨rfl, hE⟩
                exact ⟨_, rfl, hE, congrArg Value.bool HX.out⟩
            · refine op_value fun a w c => ⟨(wanted_plain rfl), _, run_assign _ rfl w, (c.new 8 35 (by kernel_rfl) (by kernel_rfl))⟩
          intro s w4 hEr hold hnew
          have f0 : s 0 = .slice (some ⟨b1, off, none⟩) n cap := hold 0 (by kernel_rfl)
          have f1 : s 1 = .slice (some ⟨b2, off', none⟩) m cap' := hold 1 (by kernel_rfl)
          have f5 : s 5 = .int .i64 (i : Int) := hold 5 (by kernel_rfl)
          have f4 : s 4 = .bool x := hnew 9 4 (by kernel_rfl)
          have f27 : s 27 = .slice (some ⟨b1, off, none⟩) n cap := hnew 0 27 (by kernel_rfl)
          have f28 : s 28 = .int .i64 (i : Int) := hnew 1 28 (by kernel_rfl)
          have f29 : s 29 = .pointer (some ⟨b1, off + i * 3, none⟩) := hnew 2 29 (by kernel_rfl)
          have f30 : s 30 = vv xk xn xs := hnew 3 30 (by kernel_rfl)
          have f31 : s 31 = .slice (some ⟨b2, off', none⟩) m cap' := hnew 4 31 (by kernel_rfl)
          have f32 : s 32 = .int .i64 (i : Int) := hnew 5 32 (by kernel_rfl)
          have f33 : s 33 = .pointer (some ⟨b2, off' + i * 3, none⟩) := hnew 6 33 (by kernel_rfl)
          have f34 : s 34 = vv yk yn ys := hnew 7 34 (by kernel_rfl)
          have f35 : s 35 = .bool x := hnew 8 35 (by kernel_rfl)
          change Exit.then _ _ .normal ⟨#[s 0, s 1, s 2, s 3, s 4, s 5, s 6, s 7, s 8, s 9, s 10, s 11, s 12, s 13, s 14, s 15, s 16, s 17, s 18, s 19, s 20, s 21, s 22, s 23, s 24, s 25, s 26, s 27, s 28, s 29, s 30, s 31, s 32, s 33, s 34, s 35, s 36, s 37, s 38, s 39, s 40], _⟩ _
          simp only [f0, f1, f5, f4, f27, f28, f29, f30, f31, f32, f33, f34, f35]
          clear hold hnew
          go_wp2
          go_ret
          exact ⟨by rw [HF.out]; exact congrArg (fun b => Ending.returned (Value.bool b)) HX.out.symm, hE.trans hEr⟩
        · have i3 : ¬ (i : Int) < (m : Int) := by omega
          have HF := Lib.hid (lessL_end HI.out.same HI.out.le HI.out.le' (.inr (by rw [HM.out]; omega)))
          have e1 : ¬ (n : Int) < (m : Int) := by omega
          have e2 : decide (a.length < b.length) = false := decide_eq_false (by rw [HL.out, HM.out]; omega)
          go_wp2
          go_ret
          exact ⟨by rw [HF.out, e2]; rfl, hE⟩
      · have i2 : ¬ (i : Int) < (n : Int) := by omega
        have HF := Lib.hid (lessL_end HI.out.same HI.out.le HI.out.le' (.inl (by rw [HL.out]; omega)))
        have e2 : decide (a.length < b.length) = decide (n < m) := by rw [HL.out, HM.out]
        go_wp2
        go_ret
        exact ⟨by rw [HF.out, e2]; rfl, hE⟩

end Go.Proofs.Ytcenjjoadhfhaaa
