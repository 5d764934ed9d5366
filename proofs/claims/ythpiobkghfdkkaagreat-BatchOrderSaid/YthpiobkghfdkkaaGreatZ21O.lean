/-
  Texts that belong together: The contracts of package zset: run, repeats. The contract of package zset: merge. The contracts of package zset: mergePairs, ordered. What Make makes: plain facts. The contract of package zset: Make. The contracts of package zset: Right, Total, Plain, Of, ofNet. What Make makes of items that are added alone: plain facts.
-/
import Derived.Deep.LoopGhost
import Derived.Test.YthpiobkghfdkkaaGreatZ19O
import Derived.Deep.Cut
namespace Go.Proofs.YthpiobkghfdkkaaGreat
open Go.RowKit
set_option linter.unusedVariables false


set_option maxRecDepth 100000 in
set_option maxHeartbeats 4000000 in
theorem zset_run {b0 : Nat} {A : Option Addr} {n cap : Nat} {Z : List J} (w : World) (h : Zs b0 w A n cap Z) :
    Calls Tryz.prog 100 #[.slice A n cap] w fun e w' => (∃ k : Nat, e = .returned (.int .i64 (k : Int)) ∧ IsRun keyJ Z k) ∧ Ev w w' := by
  have hn := h.le
  have hm := h.max
  have HN := Lib.hid h.len
  have hmix : Tryz.prog.follows .mixedOrders = true := by kernel_rfl
  by_cases h0 : n = 0
  · subst h0
    have HF : Hid (IsRun keyJ Z 0) := Lib.hid ⟨Nat.zero_le _, fun hp => (by rw [HN.out] at hp; omega), fun i x y _ _ hi => (by omega), fun x y hx => (by
      have := (List.getElem?_eq_some_iff.1 hx).1
      rw [HN.out] at this; omega)⟩
    go_enter Tryz.func100, Tryz.ntmps100
    go_wp2
    go_loopw [3] (fun i wr => i = .int .i64 0 ∧ Ev w wr) (fun i _ => 0)
    case atStart => exact ⟨rfl, Ev.refl _⟩
    case round =>
      obtain ⟨rfl, hE⟩ := hrel
      go_wp2_with fail
      go_quiet (fail)
      go_wp2
      go_ret
      exact ⟨⟨0, rfl, HF.out⟩, hE.trans (Ev.drewN _ _)⟩
  · have i1 : (1 : Int) ≤ (n : Int) := by omega
    go_enter Tryz.func100, Tryz.ntmps100
    go_wp2
    go_loopw [3] (fun i wr => ∃ k : Nat, 1 ≤ k ∧ k ≤ n ∧ i = .int .i64 (k : Int) ∧ Hid (∀ i x y, Z[i]? = some x → Z[i + 1]? = some y → i + 1 < k → lessR (keyJ y) (keyJ x) = false) ∧ Ev w wr) (fun i _ => n - (intOf i).toNat)
    case atStart => exact ⟨1, by omega, by omega, rfl, Lib.hid (fun i x y _ _ hi => by omega), Ev.refl _⟩
    case round =>
      obtain ⟨k, hk1, hk, rfl, HT, hE⟩ := hrel
      by_cases hlt : k < n
      · obtain ⟨b, off, z1, rfl, hb, hb0, hx1, c1, _, hv1⟩ := (h.ev hE).at hlt
        obtain ⟨j, hj⟩ : ∃ j, k = j + 1 := ⟨k - 1, by omega⟩
        obtain ⟨b', off', z0, hA', _, _, hx0, c0, _, hv0⟩ := (h.ev hE).at (i := j) (by omega)
        obtain ⟨rfl, rfl⟩ : b = b' ∧ off = off' := by injection hA' with e; injection e with e1 e2; exact ⟨e1, e2⟩
        have HL := Lib.hid (fun w1 (h1 : Ev wr w1) => row_less w1 (hv1.ev h1) (hv0.ev h1))
        have HX1 := Lib.hid hx1
        have HX0 := Lib.hid hx0
        obtain ⟨⟨A1, n1, cap1⟩, r1, p1, q1⟩ := z1
        obtain ⟨⟨A0, n0, cap0⟩, r0, p0, q0⟩ := z0
        clear hx1 hx0 hv1 hv0 hA'
        unfold jrow at c1 c0
        simp only at c1 c0 HL
        generalize hl : lessR r1 r0 = ls at HL
        have HLS := Lib.hid hl
        clear hl
        have i1 : (0 : Int) ≤ (k : Int) := by omega
        have i2 : (k : Int) < (n : Int) := by omega
        have i3 : IntKind.i64.wrap ((k : Int) - 1) = (j : Int) := by rw [show (k : Int) - 1 = (j : Int) by omega]; exact IntWalk.i64_in _ (by omega)
        have i4 : (0 : Int) ≤ (j : Int) := by omega
        have i5 : (j : Int) < (n : Int) := by omega
        have HJ := Lib.hid hj
        clear hj
        cases ls
        · go_wp2_with fail
          refine wp_region_slots hmix [fun v _ => v = .int .i64 (k : Int), fun v _ => v = .slice (some ⟨b, off, none⟩) n cap, fun v _ => v = .int .i64 (n : Int), fun v _ => v = .bool true, fun v _ => v = .bool true, fun v _ => v = .slice (some ⟨b, off, none⟩) n cap, fun v _ => v = .int .i64 (k : Int), fun v _ => v = .pointer (some ⟨b, off + k * 2, none⟩), fun v _ => v = .pointer (some ⟨b, off + k * 2, none⟩), fun v _ => v = .slice A1 n1 cap1, fun v _ => v = .slice (some ⟨b, off, none⟩) n cap, fun v _ => v = .int .i64 (k : Int), fun v _ => v = .int .i64 (j : Int), fun v _ => v = .pointer (some ⟨b, off + j * 2, none⟩), fun v _ => v = .pointer (some ⟨b, off + j * 2, none⟩), fun v _ => v = .slice A0 n0 cap0, fun v _ => v = .bool false, fun v _ => v = .bool true, fun v _ => v = .bool true]
            29 rfl (by kernel_rfl) ⟨mono_eq _, mono_eq _, mono_eq _, mono_eq _, mono_eq _, mono_eq _, mono_eq _, mono_eq _, mono_eq _, mono_eq _, mono_eq _, mono_eq _, mono_eq _, mono_eq _, mono_eq _, mono_eq _, mono_eq _, mono_eq _, mono_eq _, trivial⟩ ?_ ?_
          · refine ops_cons 0 ?_ (ops_cons 1 ?_ (ops_cons 2 ?_ (ops_cons 3 ?_ (ops_cons 4 ?_ (ops_cons 5 ?_ (ops_cons 6 ?_ (ops_cons 7 ?_ (ops_cons 8 ?_ (ops_cons 9 ?_ (ops_cons 10 ?_ (ops_cons 11 ?_ (ops_cons 12 ?_ (ops_cons 13 ?_ (ops_cons 14 ?_ (ops_cons 15 ?_ (ops_cons 16 ?_ (ops_cons 17 ?_ (ops_cons 18 ?_ (ops_nil 19)))))))))))))))))))
            · refine op_value fun a w c => ⟨(wanted_plain rfl), _, run_move _ rfl w, (c.was 3 (by kernel_rfl) rfl)⟩
            · refine op_value fun a w c => ⟨(wanted_plain rfl), _, run_move _ rfl w, (c.was 0 (by kernel_rfl) rfl)⟩
            · refine op_value fun a w c => ⟨(wanted_plain rfl), _, run_len_items rfl ((c.new 1 8 (by kernel_rfl) (by kernel_rfl)) : a.eval (.tmp 8) = .slice (some ⟨b, off, none⟩) n cap) w, rfl⟩
            · refine op_value fun a w c => ⟨(wanted_plain rfl), .bool true, ?_, rfl⟩
              have e7 : a.eval (.tmp 7) = .int .i64 (k : Int) := (c.new 0 7 (by kernel_rfl) (by kernel_rfl))
              have e9 : a.eval (.tmp 9) = .int .i64 (n : Int) := (c.new 2 9 (by kernel_rfl) (by kernel_rfl))
              generalize a.eval = ρ at e7 e9 ⊢
              simp [execOp, e7, e9, go_sem, i2]
            · refine op_value fun a w c => ⟨(wanted_plain rfl), _, run_move _ rfl w, (c.new 3 10 (by kernel_rfl) (by kernel_rfl))⟩
            · refine op_value fun a w c => ⟨(wanted_yes rfl (by kernel_rfl) (c.new 4 11 (by kernel_rfl) (by kernel_rfl))), _, run_move _ rfl w, (c.was 0 (by kernel_rfl) rfl)⟩
            · refine op_value fun a w c => ⟨(wanted_yes rfl (by kernel_rfl) (c.new 4 11 (by kernel_rfl) (by kernel_rfl))), _, run_move _ rfl w, (c.was 3 (by kernel_rfl) rfl)⟩
            · refine op_value fun a w c => ⟨(wanted_yes rfl (by kernel_rfl) (c.new 4 11 (by kernel_rfl) (by kernel_rfl))), .pointer (some ⟨b, off + k * 2, none⟩), ?_, rfl⟩
              have e12 : a.eval (.tmp 12) = .slice (some ⟨b, off, none⟩) n cap := (c.new 5 12 (by kernel_rfl) (by kernel_rfl))
              have e13 : a.eval (.tmp 13) = .int .i64 (k : Int) := (c.new 6 13 (by kernel_rfl) (by kernel_rfl))
              generalize a.eval = ρ at e12 e13 ⊢
              simp [execOp, e12, e13, go_sem, i1, i2]
            · refine op_value fun a w c => ⟨(wanted_yes rfl (by kernel_rfl) (c.new 4 11 (by kernel_rfl) (by kernel_rfl))), .pointer (some ⟨b, off + k * 2, none⟩), ?_, rfl⟩
              have e14 : a.eval (.tmp 14) = .pointer (some ⟨b, off + k * 2, none⟩) := (c.new 7 14 (by kernel_rfl) (by kernel_rfl))
              generalize a.eval = ρ at e14 ⊢
              simp [execOp, e14, go_sem]
            · refine op_value fun a w c => ⟨(wanted_yes rfl (by kernel_rfl) (c.new 4 11 (by kernel_rfl) (by kernel_rfl))), .slice A1 n1 cap1, ?_, rfl⟩
              have e15 : a.eval (.tmp 15) = .pointer (some ⟨b, off + k * 2, none⟩) := (c.new 8 15 (by kernel_rfl) (by kernel_rfl))
              have hc := (c.ev.cell (p := ⟨b, off + k * 2, none⟩) hb).trans c1
              generalize a.eval = ρ at e15 ⊢
              simp [execOp, e15, hc, go_sem]
            · refine op_value fun a w c => ⟨(wanted_yes rfl (by kernel_rfl) (c.new 4 11 (by kernel_rfl) (by kernel_rfl))), _, run_move _ rfl w, (c.was 0 (by kernel_rfl) rfl)⟩
            · refine op_value fun a w c => ⟨(wanted_yes rfl (by kernel_rfl) (c.new 4 11 (by kernel_rfl) (by kernel_rfl))), _, run_move _ rfl w, (c.was 3 (by kernel_rfl) rfl)⟩
            · refine op_value fun a w c => ⟨(wanted_yes rfl (by kernel_rfl) (c.new 4 11 (by kernel_rfl) (by kernel_rfl))), .int .i64 (j : Int), ?_, rfl⟩
              have e18 : a.eval (.tmp 18) = .int .i64 (k : Int) := (c.new 11 18 (by kernel_rfl) (by kernel_rfl))
              have kc0 : a.eval (.const (.int .i64 1)) = .int .i64 1 := rfl
              generalize a.eval = ρ at e18 kc0 ⊢
              simp [execOp, e18, kc0, go_sem, i3]
            · refine op_value fun a w c => ⟨(wanted_yes rfl (by kernel_rfl) (c.new 4 11 (by kernel_rfl) (by kernel_rfl))), .pointer (some ⟨b, off + j * 2, none⟩), ?_, rfl⟩
              have e17 : a.eval (.tmp 17) = .slice (some ⟨b, off, none⟩) n cap := (c.new 10 17 (by kernel_rfl) (by kernel_rfl))
              have e19 : a.eval (.tmp 19) = .int .i64 (j : Int) := (c.new 12 19 (by kernel_rfl) (by kernel_rfl))
              generalize a.eval = ρ at e17 e19 ⊢
              simp [execOp, e17, e19, go_sem, i4, i5]
            · refine op_value fun a w c => ⟨(wanted_yes rfl (by kernel_rfl) (c.new 4 11 (by kernel_rfl) (by kernel_rfl))), .pointer (some ⟨b, off + j * 2, none⟩), ?_, rfl⟩
              have e20 : a.eval (.tmp 20) = .pointer (some ⟨b, off + j * 2, none⟩) := (c.new 13 20 (by kernel_rfl) (by kernel_rfl))
              generalize a.eval = ρ at e20 ⊢
              simp [execOp, e20, go_sem]
            · refine op_value fun a w c => ⟨(wanted_yes rfl (by kernel_rfl) (c.new 4 11 (by kernel_rfl) (by kernel_rfl))), .slice A0 n0 cap0, ?_, rfl⟩
              have e21 : a.eval (.tmp 21) = .pointer (some ⟨b, off + j * 2, none⟩) := (c.new 14 21 (by kernel_rfl) (by kernel_rfl))
              have hc := (c.ev.cell (p := ⟨b, off + j * 2, none⟩) hb).trans c0
              generalize a.eval = ρ at e21 ⊢
              simp [execOp, e21, hc, go_sem]
            · refine op_call fun a w c => ⟨(wanted_yes rfl (by kernel_rfl) (c.new 4 11 (by kernel_rfl) (by kernel_rfl))), 76, #[.slice A1 n1 cap1, .slice A0 n0 cap0], ?_, ?_⟩
              · rw [run_call 76 _ _ rfl (by kernel_rfl)]
                have e16 : a.eval (.tmp 16) = .slice A1 n1 cap1 := (c.new 9 16 (by kernel_rfl) (by kernel_rfl))
                have e22 : a.eval (.tmp 22) = .slice A0 n0 cap0 := (c.new 15 22 (by kernel_rfl) (by kernel_rfl))
                simp [e16, e22]
              · refine (HL.out w c.ev).mono ?_
                rintro e w2 ⟨rfl, hE⟩
                exact ⟨_, rfl, hE, rfl⟩
            · refine op_value fun a w c => ⟨(wanted_yes rfl (by kernel_rfl) (c.new 4 11 (by kernel_rfl) (by kernel_rfl))), .bool true, ?_, rfl⟩
              have e23 : a.eval (.tmp 23) = .bool false := (c.new 16 23 (by kernel_rfl) (by kernel_rfl))
              generalize a.eval = ρ at e23 ⊢
              simp [execOp, e23, go_sem]
            · refine op_value fun a w c => ⟨(wanted_plain rfl), _, run_pick_true rfl (c.new 4 11 (by kernel_rfl) (by kernel_rfl)) w, (c.new 17 24 (by kernel_rfl) (by kernel_rfl))⟩
          intro s w4 hEr hold hnew
          have f0 : s 0 = .slice (some ⟨b, off, none⟩) n cap := hold 0 (by kernel_rfl)
          have f1 : s 1 = undef := hold 1 (by kernel_rfl)
          have f2 : s 2 = .int .i64 0 := hold 2 (by kernel_rfl)
          have f3 : s 3 = .int .i64 (k : Int) := hold 3 (by kernel_rfl)
          have f4 : s 4 = .slice (some ⟨b, off, none⟩) n cap := hold 4 (by kernel_rfl)
          have f5 : s 5 = .int .i64 (n : Int) := hold 5 (by kernel_rfl)
          have f6 : s 6 = .int .i64 1 := hold 6 (by kernel_rfl)
          have f28 : s 28 = undef := hold 28 (by kernel_rfl)
          have f7 : s 7 = .int .i64 (k : Int) := hnew 0 7 (by kernel_rfl)
          have f8 : s 8 = .slice (some ⟨b, off, none⟩) n cap := hnew 1 8 (by kernel_rfl)
          have f9 : s 9 = .int .i64 (n : Int) := hnew 2 9 (by kernel_rfl)
          have f10 : s 10 = .bool true := hnew 3 10 (by kernel_rfl)
          have f11 : s 11 = .bool true := hnew 4 11 (by kernel_rfl)
          have f12 : s 12 = .slice (some ⟨b, off, none⟩) n cap := hnew 5 12 (by kernel_rfl)
          have f13 : s 13 = .int .i64 (k : Int) := hnew 6 13 (by kernel_rfl)
          have f14 : s 14 = .pointer (some ⟨b, off + k * 2, none⟩) := hnew 7 14 (by kernel_rfl)
          have f15 : s 15 = .pointer (some ⟨b, off + k * 2, none⟩) := hnew 8 15 (by kernel_rfl)
          have f16 : s 16 = .slice A1 n1 cap1 := hnew 9 16 (by kernel_rfl)
          have f17 : s 17 = .slice (some ⟨b, off, none⟩) n cap := hnew 10 17 (by kernel_rfl)
          have f18 : s 18 = .int .i64 (k : Int) := hnew 11 18 (by kernel_rfl)
          have f19 : s 19 = .int .i64 (j : Int) := hnew 12 19 (by kernel_rfl)
          have f20 : s 20 = .pointer (some ⟨b, off + j * 2, none⟩) := hnew 13 20 (by kernel_rfl)
          have f21 : s 21 = .pointer (some ⟨b, off + j * 2, none⟩) := hnew 14 21 (by kernel_rfl)
          have f22 : s 22 = .slice A0 n0 cap0 := hnew 15 22 (by kernel_rfl)
          have f23 : s 23 = .bool false := hnew 16 23 (by kernel_rfl)
          have f24 : s 24 = .bool true := hnew 17 24 (by kernel_rfl)
          have f25 : s 25 = .bool true := hnew 18 25 (by kernel_rfl)
          change Exit.then _ _ .normal ⟨#[s 0, s 1, s 2, s 3, s 4, s 5, s 6, s 7, s 8, s 9, s 10, s 11, s 12, s 13, s 14, s 15, s 16, s 17, s 18, s 19, s 20, s 21, s 22, s 23, s 24, s 25, s 26, s 27, s 28], _⟩ _
          simp only [f0, f1, f2, f3, f4, f5, f6, f28, f7, f8, f9, f10, f11, f12, f13, f14, f15, f16, f17, f18, f19, f20, f21, f22, f23, f24, f25]
          clear hold hnew
          generalize s 26 = u26
          generalize s 27 = u27
          go_wp2
          go_roundw
          case rel =>
            refine ⟨k + 1, by omega, by omega, by go_num, Lib.hid (fun i x y hx hy hi => ?_), hE.trans hEr⟩
            by_cases hij : i + 1 < k
            · exact HT.out i x y hx hy hij
            · have hj := HJ.out
              obtain rfl : i = j := by omega
              rw [← hj] at hy
              rw [HX0.out] at hx
              rw [HX1.out] at hy
              obtain rfl := Option.some.inj hx
              obtain rfl := Option.some.inj hy
              exact HLS.out
          case measure => simp [intOf]; omega
        · go_wp2_with fail
          refine wp_region_slots hmix [fun v _ => v = .int .i64 (k : Int), fun v _ => v = .slice (some ⟨b, off, none⟩) n cap, fun v _ => v = .int .i64 (n : Int), fun v _ => v = .bool true, fun v _ => v = .bool true, fun v _ => v = .slice (some ⟨b, off, none⟩) n cap, fun v _ => v = .int .i64 (k : Int), fun v _ => v = .pointer (some ⟨b, off + k * 2, none⟩), fun v _ => v = .pointer (some ⟨b, off + k * 2, none⟩), fun v _ => v = .slice A1 n1 cap1, fun v _ => v = .slice (some ⟨b, off, none⟩) n cap, fun v _ => v = .int .i64 (k : Int), fun v _ => v = .int .i64 (j : Int), fun v _ => v = .pointer (some ⟨b, off + j * 2, none⟩), fun v _ => v = .pointer (some ⟨b, off + j * 2, none⟩), fun v _ => v = .slice A0 n0 cap0, fun v _ => v = .bool true, fun v _ => v = .bool false, fun v _ => v = .bool false]
            29 rfl (by kernel_rfl) ⟨mono_eq _, mono_eq _, mono_eq _, mono_eq _, mono_eq _, mono_eq _, mono_eq _, mono_eq _, mono_eq _, mono_eq _, mono_eq _, mono_eq _, mono_eq _, mono_eq _, mono_eq _, mono_eq _, mono_eq _, mono_eq _, mono_eq _, trivial⟩ ?_ ?_
          · refine ops_cons 0 ?_ (ops_cons 1 ?_ (ops_cons 2 ?_ (ops_cons 3 ?_ (ops_cons 4 ?_ (ops_cons 5 ?_ (ops_cons 6 ?_ (ops_cons 7 ?_ (ops_cons 8 ?_ (ops_cons 9 ?_ (ops_cons 10 ?_ (ops_cons 11 ?_ (ops_cons 12 ?_ (ops_cons 13 ?_ (ops_cons 14 ?_ (ops_cons 15 ?_ (ops_cons 16 ?_ (ops_cons 17 ?_ (ops_cons 18 ?_ (ops_nil 19)))))))))))))))))))
            · refine op_value fun a w c => ⟨(wanted_plain rfl), _, run_move _ rfl w, (c.was 3 (by kernel_rfl) rfl)⟩
            · refine op_value fun a w c => ⟨(wanted_plain rfl), _, run_move _ rfl w, (c.was 0 (by kernel_rfl) rfl)⟩
            · refine op_value fun a w c => ⟨(wanted_plain rfl), _, run_len_items rfl ((c.new 1 8 (by kernel_rfl) (by kernel_rfl)) : a.eval (.tmp 8) = .slice (some ⟨b, off, none⟩) n cap) w, rfl⟩
            · refine op_value fun a w c => ⟨(wanted_plain rfl), .bool true, ?_, rfl⟩
              have e7 : a.eval (.tmp 7) = .int .i64 (k : Int) := (c.new 0 7 (by kernel_rfl) (by kernel_rfl))
              have e9 : a.eval (.tmp 9) = .int .i64 (n : Int) := (c.new 2 9 (by kernel_rfl) (by kernel_rfl))
              generalize a.eval = ρ at e7 e9 ⊢
              simp [execOp, e7, e9, go_sem, i2]
            · refine op_value fun a w c => ⟨(wanted_plain rfl), _, run_move _ rfl w, (c.new 3 10 (by kernel_rfl) (by kernel_rfl))⟩
            · refine op_value fun a w c => ⟨(wanted_yes rfl (by kernel_rfl) (c.new 4 11 (by kernel_rfl) (by kernel_rfl))), _, run_move _ rfl w, (c.was 0 (by kernel_rfl) rfl)⟩
            · refine op_value fun a w c => ⟨(wanted_yes rfl (by kernel_rfl) (c.new 4 11 (by kernel_rfl) (by kernel_rfl))), _, run_move _ rfl w, (c.was 3 (by kernel_rfl) rfl)⟩
            · refine op_value fun a w c => ⟨(wanted_yes rfl (by kernel_rfl) (c.new 4 11 (by kernel_rfl) (by kernel_rfl))), .pointer (some ⟨b, off + k * 2, none⟩), ?_, rfl⟩
              have e12 : a.eval (.tmp 12) = .slice (some ⟨b, off, none⟩) n cap := (c.new 5 12 (by kernel_rfl) (by kernel_rfl))
              have e13 : a.eval (.tmp 13) = .int .i64 (k : Int) := (c.new 6 13 (by kernel_rfl) (by kernel_rfl))
              generalize a.eval = ρ at e12 e13 ⊢
              simp [execOp, e12, e13, go_sem, i1, i2]
            · refine op_value fun a w c => ⟨(wanted_yes rfl (by kernel_rfl) (c.new 4 11 (by kernel_rfl) (by kernel_rfl))), .pointer (some ⟨b, off + k * 2, none⟩), ?_, rfl⟩
              have e14 : a.eval (.tmp 14) = .pointer (some ⟨b, off + k * 2, none⟩) := (c.new 7 14 (by kernel_rfl) (by kernel_rfl))
              generalize a.eval = ρ at e14 ⊢
              simp [execOp, e14, go_sem]
            · refine op_value fun a w c => ⟨(wanted_yes rfl (by kernel_rfl) (c.new 4 11 (by kernel_rfl) (by kernel_rfl))), .slice A1 n1 cap1, ?_, rfl⟩
              have e15 : a.eval (.tmp 15) = .pointer (some ⟨b, off + k * 2, none⟩) := (c.new 8 15 (by kernel_rfl) (by kernel_rfl))
              have hc := (c.ev.cell (p := ⟨b, off + k * 2, none⟩) hb).trans c1
              generalize a.eval = ρ at e15 ⊢
              simp [execOp, e15, hc, go_sem]
            · refine op_value fun a w c => ⟨(wanted_yes rfl (by kernel_rfl) (c.new 4 11 (by kernel_rfl) (by kernel_rfl))), _, run_move _ rfl w, (c.was 0 (by kernel_rfl) rfl)⟩
            · refine op_value fun a w c => ⟨(wanted_yes rfl (by kernel_rfl) (c.new 4 11 (by kernel_rfl) (by kernel_rfl))), _, run_move _ rfl w, (c.was 3 (by kernel_rfl) rfl)⟩
            · refine op_value fun a w c => ⟨(wanted_yes rfl (by kernel_rfl) (c.new 4 11 (by kernel_rfl) (by kernel_rfl))), .int .i64 (j : Int), ?_, rfl⟩
              have e18 : a.eval (.tmp 18) = .int .i64 (k : Int) := (c.new 11 18 (by kernel_rfl) (by kernel_rfl))
              have kc0 : a.eval (.const (.int .i64 1)) = .int .i64 1 := rfl
              generalize a.eval = ρ at e18 kc0 ⊢
              simp [execOp, e18, kc0, go_sem, i3]
            · refine op_value fun a w c => ⟨(wanted_yes rfl (by kernel_rfl) (c.new 4 11 (by kernel_rfl) (by kernel_rfl))), .pointer (some ⟨b, off + j * 2, none⟩), ?_, rfl⟩
              have e17 : a.eval (.tmp 17) = .slice (some ⟨b, off, none⟩) n cap := (c.new 10 17 (by kernel_rfl) (by kernel_rfl))
              have e19 : a.eval (.tmp 19) = .int .i64 (j : Int) := (c.new 12 19 (by kernel_rfl) (by kernel_rfl))
              generalize a.eval = ρ at e17 e19 ⊢
              simp [execOp, e17, e19, go_sem, i4, i5]
            · refine op_value fun a w c => ⟨(wanted_yes rfl (by kernel_rfl) (c.new 4 11 (by kernel_rfl) (by kernel_rfl))), .pointer (some ⟨b, off + j * 2, none⟩), ?_, rfl⟩
              have e20 : a.eval (.tmp 20) = .pointer (some ⟨b, off + j * 2, none⟩) := (c.new 13 20 (by kernel_rfl) (by kernel_rfl))
              generalize a.eval = ρ at e20 ⊢
              simp [execOp, e20, go_sem]
            · refine op_value fun a w c => ⟨(wanted_yes rfl (by kernel_rfl) (c.new 4 11 (by kernel_rfl) (by kernel_rfl))), .slice A0 n0 cap0, ?_, rfl⟩
              have e21 : a.eval (.tmp 21) = .pointer (some ⟨b, off + j * 2, none⟩) := (c.new 14 21 (by kernel_rfl) (by kernel_rfl))
              have hc := (c.ev.cell (p := ⟨b, off + j * 2, none⟩) hb).trans c0
              generalize a.eval = ρ at e21 ⊢
              simp [execOp, e21, hc, go_sem]
            · refine op_call fun a w c => ⟨(wanted_yes rfl (by kernel_rfl) (c.new 4 11 (by kernel_rfl) (by kernel_rfl))), 76, #[.slice A1 n1 cap1, .slice A0 n0 cap0], ?_, ?_⟩
              · rw [run_call 76 _ _ rfl (by kernel_rfl)]
                have e16 : a.eval (.tmp 16) = .slice A1 n1 cap1 := (c.new 9 16 (by kernel_rfl) (by kernel_rfl))
                have e22 : a.eval (.tmp 22) = .slice A0 n0 cap0 := (c.new 15 22 (by kernel_rfl) (by kernel_rfl))
                simp [e16, e22]
              · refine (HL.out w c.ev).mono ?_
                rintro e w2 ⟨rfl, hE⟩
                exact ⟨_, rfl, hE, rfl⟩
            · refine op_value fun a w c => ⟨(wanted_yes rfl (by kernel_rfl) (c.new 4 11 (by kernel_rfl) (by kernel_rfl))), .bool false, ?_, rfl⟩
              have e23 : a.eval (.tmp 23) = .bool true := (c.new 16 23 (by kernel_rfl) (by kernel_rfl))
              generalize a.eval = ρ at e23 ⊢
              simp [execOp, e23, go_sem]
            · refine op_value fun a w c => ⟨(wanted_plain rfl), _, run_pick_true rfl (c.new 4 11 (by kernel_rfl) (by kernel_rfl)) w, (c.new 17 24 (by kernel_rfl) (by kernel_rfl))⟩
          intro s w4 hEr hold hnew
          have f0 : s 0 = .slice (some ⟨b, off, none⟩) n cap := hold 0 (by kernel_rfl)
          have f1 : s 1 = undef := hold 1 (by kernel_rfl)
          have f2 : s 2 = .int .i64 0 := hold 2 (by kernel_rfl)
          have f3 : s 3 = .int .i64 (k : Int) := hold 3 (by kernel_rfl)
          have f4 : s 4 = .slice (some ⟨b, off, none⟩) n cap := hold 4 (by kernel_rfl)
          have f5 : s 5 = .int .i64 (n : Int) := hold 5 (by kernel_rfl)
          have f6 : s 6 = .int .i64 1 := hold 6 (by kernel_rfl)
          have f28 : s 28 = undef := hold 28 (by kernel_rfl)
          have f7 : s 7 = .int .i64 (k : Int) := hnew 0 7 (by kernel_rfl)
          have f8 : s 8 = .slice (some ⟨b, off, none⟩) n cap := hnew 1 8 (by kernel_rfl)
          have f9 : s 9 = .int .i64 (n : Int) := hnew 2 9 (by kernel_rfl)
          have f10 : s 10 = .bool true := hnew 3 10 (by kernel_rfl)
          have f11 : s 11 = .bool true := hnew 4 11 (by kernel_rfl)
          have f12 : s 12 = .slice (some ⟨b, off, none⟩) n cap := hnew 5 12 (by kernel_rfl)
          have f13 : s 13 = .int .i64 (k : Int) := hnew 6 13 (by kernel_rfl)
          have f14 : s 14 = .pointer (some ⟨b, off + k * 2, none⟩) := hnew 7 14 (by kernel_rfl)
          have f15 : s 15 = .pointer (some ⟨b, off + k * 2, none⟩) := hnew 8 15 (by kernel_rfl)
          have f16 : s 16 = .slice A1 n1 cap1 := hnew 9 16 (by kernel_rfl)
          have f17 : s 17 = .slice (some ⟨b, off, none⟩) n cap := hnew 10 17 (by kernel_rfl)
          have f18 : s 18 = .int .i64 (k : Int) := hnew 11 18 (by kernel_rfl)
          have f19 : s 19 = .int .i64 (j : Int) := hnew 12 19 (by kernel_rfl)
          have f20 : s 20 = .pointer (some ⟨b, off + j * 2, none⟩) := hnew 13 20 (by kernel_rfl)
          have f21 : s 21 = .pointer (some ⟨b, off + j * 2, none⟩) := hnew 14 21 (by kernel_rfl)
          have f22 : s 22 = .slice A0 n0 cap0 := hnew 15 22 (by kernel_rfl)
          have f23 : s 23 = .bool true := hnew 16 23 (by kernel_rfl)
          have f24 : s 24 = .bool false := hnew 17 24 (by kernel_rfl)
          have f25 : s 25 = .bool false := hnew 18 25 (by kernel_rfl)
          change Exit.then _ _ .normal ⟨#[s 0, s 1, s 2, s 3, s 4, s 5, s 6, s 7, s 8, s 9, s 10, s 11, s 12, s 13, s 14, s 15, s 16, s 17, s 18, s 19, s 20, s 21, s 22, s 23, s 24, s 25, s 26, s 27, s 28], _⟩ _
          simp only [f0, f1, f2, f3, f4, f5, f6, f28, f7, f8, f9, f10, f11, f12, f13, f14, f15, f16, f17, f18, f19, f20, f21, f22, f23, f24, f25]
          clear hold hnew
          go_wp2
          go_ret
          refine ⟨⟨k, rfl, by rw [HN.out]; omega, fun _ => by omega, HT.out, fun x y hx hy => ?_⟩, hE.trans hEr⟩
          rw [show k - 1 = j by have := HJ.out; omega, HX0.out] at hx
          rw [HX1.out] at hy
          obtain rfl := Option.some.inj hx
          obtain rfl := Option.some.inj hy
          exact HLS.out
      · obtain rfl : k = n := by omega
        have HF : Hid (IsRun keyJ Z k) := Lib.hid ⟨by rw [HN.out]; omega, fun _ => by omega, HT.out, fun x y hx hy => by
          have := (List.getElem?_eq_some_iff.1 hy).1
          rw [HN.out] at this; omega⟩
        have i2 : ¬ (k : Int) < (k : Int) := by omega
        go_wp2_with fail
        go_quiet (fail)
        go_wp2
        go_ret
        exact ⟨⟨k, rfl, HF.out⟩, hE.trans (Ev.drewN _ _)⟩

/-- The first k items are of one row, and the next one is not. -/
structure Reps (Z : List J) (k : Nat) : Prop where
  le : k ≤ Z.length
  pos : 1 ≤ k
  same : ∀ i x z, i < k → Z[i]? = some x → Z[0]? = some z → sameR (keyJ x) (keyJ z) = true
  ends : ∀ x z, Z[k]? = some x → Z[0]? = some z → sameR (keyJ x) (keyJ z) = false

set_option maxRecDepth 100000 in
set_option maxHeartbeats 4000000 in
theorem zset_repeats {b0 : Nat} {A : Option Addr} {n cap : Nat} {Z : List J} (w : World) (h : Zs b0 w A n cap Z) (hpos : 0 < n) (hr : AllRight keyJ Z) :
    Calls Tryz.prog 70 #[.slice A n cap] w fun e w' => (∃ k : Nat, e = .returned (.int .i64 (k : Int)) ∧ Reps Z k) ∧ Ev w w' := by
  have hn := h.le
  have hm := h.max
  have HN := Lib.hid h.len
  have HR := Lib.hid hr
  clear hr
  have hmix : Tryz.prog.follows .mixedOrders = true := by kernel_rfl
  go_enter Tryz.func70, Tryz.ntmps70
  go_wp2
  go_loopw [3] (fun i wr => ∃ k : Nat, 1 ≤ k ∧ k ≤ n ∧ i = .int .i64 (k : Int) ∧ Hid (∀ i x z, i < k → Z[i]? = some x → Z[0]? = some z → sameR (keyJ x) (keyJ z) = true) ∧ Ev w wr) (fun i _ => n - (intOf i).toNat)
  case atStart => exact ⟨1, by omega, by omega, rfl, Lib.hid (fun i x z hi hx hz => by
    obtain rfl : i = 0 := by omega
    rw [hx] at hz
    obtain rfl := Option.some.inj hz
    unfold sameR
    rw [HR.out x (List.mem_of_getElem? hx)]
    simp [eqL]), Ev.refl _⟩
  case round =>
    obtain ⟨k, hk1, hk, rfl, HT, hE⟩ := hrel
    by_cases hlt : k < n
    · obtain ⟨b, off, z1, rfl, hb, hb0, hx1, c1, _, hv1⟩ := (h.ev hE).at hlt
      obtain ⟨b', off', z0, hA', _, _, hx0, c0, _, hv0⟩ := (h.ev hE).at (i := 0) (by omega)
      obtain ⟨rfl, rfl⟩ : b = b' ∧ off = off' := by injection hA' with e; injection e with e1 e2; exact ⟨e1, e2⟩
      rw [Nat.zero_mul, Nat.add_zero] at c0
      have HL := Lib.hid (fun w1 (h1 : Ev wr w1) => row_same w1 (hv1.ev h1) (hv0.ev h1))
      have HX1 := Lib.hid hx1
      have HX0 := Lib.hid hx0
      obtain ⟨⟨A1, n1, cap1⟩, r1, p1, q1⟩ := z1
      obtain ⟨⟨A0, n0, cap0⟩, r0, p0, q0⟩ := z0
      clear hx1 hx0 hv1 hv0 hA'
      unfold jrow at c1 c0
      simp only at c1 c0 HL
      generalize hl : sameR r1 r0 = ls at HL
      have HLS := Lib.hid hl
      clear hl
      have i1 : (0 : Int) ≤ (k : Int) := by omega
      have i2 : (k : Int) < (n : Int) := by omega
      have i5 : ¬ n = 0 := by omega
      cases ls
      · go_wp2_with fail
        refine wp_region_slots hmix [fun v _ => v = .int .i64 (k : Int), fun v _ => v = .slice (some ⟨b, off, none⟩) n cap, fun v _ => v = .int .i64 (n : Int), fun v _ => v = .bool true, fun v _ => v = .bool true, fun v _ => v = .slice (some ⟨b, off, none⟩) n cap, fun v _ => v = .int .i64 (k : Int), fun v _ => v = .pointer (some ⟨b, off + k * 2, none⟩), fun v _ => v = .pointer (some ⟨b, off + k * 2, none⟩), fun v _ => v = .slice A1 n1 cap1, fun v _ => v = .slice (some ⟨b, off, none⟩) n cap, fun v _ => v = .pointer (some ⟨b, off, none⟩), fun v _ => v = .pointer (some ⟨b, off, none⟩), fun v _ => v = .slice A0 n0 cap0, fun v _ => v = .bool false, fun v _ => v = .bool false]
          23 rfl (by kernel_rfl) ⟨mono_eq _, mono_eq _, mono_eq _, mono_eq _, mono_eq _, mono_eq _, mono_eq _, mono_eq _, mono_eq _, mono_eq _, mono_eq _, mono_eq _, mono_eq _, mono_eq _, mono_eq _, mono_eq _, trivial⟩ ?_ ?_
        · refine ops_cons 0 ?_ (ops_cons 1 ?_ (ops_cons 2 ?_ (ops_cons 3 ?_ (ops_cons 4 ?_ (ops_cons 5 ?_ (ops_cons 6 ?_ (ops_cons 7 ?_ (ops_cons 8 ?_ (ops_cons 9 ?_ (ops_cons 10 ?_ (ops_cons 11 ?_ (ops_cons 12 ?_ (ops_cons 13 ?_ (ops_cons 14 ?_ (ops_cons 15 ?_ (ops_nil 16))))))))))))))))
          · refine op_value fun a w c => ⟨(wanted_plain rfl), _, run_move _ rfl w, (c.was 3 (by kernel_rfl) rfl)⟩
          · refine op_value fun a w c => ⟨(wanted_plain rfl), _, run_move _ rfl w, (c.was 0 (by kernel_rfl) rfl)⟩
          · refine op_value fun a w c => ⟨(wanted_plain rfl), _, run_len_items rfl ((c.new 1 5 (by kernel_rfl) (by kernel_rfl)) : a.eval (.tmp 5) = .slice (some ⟨b, off, none⟩) n cap) w, rfl⟩
          · refine op_value fun a w c => ⟨(wanted_plain rfl), .bool true, ?_, rfl⟩
            have e4 : a.eval (.tmp 4) = .int .i64 (k : Int) := (c.new 0 4 (by kernel_rfl) (by kernel_rfl))
            have e6 : a.eval (.tmp 6) = .int .i64 (n : Int) := (c.new 2 6 (by kernel_rfl) (by kernel_rfl))
            generalize a.eval = ρ at e4 e6 ⊢
            simp [execOp, e4, e6, go_sem, i2]
          · refine op_value fun a w c => ⟨(wanted_plain rfl), _, run_move _ rfl w, (c.new 3 7 (by kernel_rfl) (by kernel_rfl))⟩
          · refine op_value fun a w c => ⟨(wanted_yes rfl (by kernel_rfl) (c.new 4 8 (by kernel_rfl) (by kernel_rfl))), _, run_move _ rfl w, (c.was 0 (by kernel_rfl) rfl)⟩
          · refine op_value fun a w c => ⟨(wanted_yes rfl (by kernel_rfl) (c.new 4 8 (by kernel_rfl) (by kernel_rfl))), _, run_move _ rfl w, (c.was 3 (by kernel_rfl) rfl)⟩
          · refine op_value fun a w c => ⟨(wanted_yes rfl (by kernel_rfl) (c.new 4 8 (by kernel_rfl) (by kernel_rfl))), .pointer (some ⟨b, off + k * 2, none⟩), ?_, rfl⟩
            have e9 : a.eval (.tmp 9) = .slice (some ⟨b, off, none⟩) n cap := (c.new 5 9 (by kernel_rfl) (by kernel_rfl))
            have e10 : a.eval (.tmp 10) = .int .i64 (k : Int) := (c.new 6 10 (by kernel_rfl) (by kernel_rfl))
            generalize a.eval = ρ at e9 e10 ⊢
            simp [execOp, e9, e10, go_sem, i1, i2]
          · refine op_value fun a w c => ⟨(wanted_yes rfl (by kernel_rfl) (c.new 4 8 (by kernel_rfl) (by kernel_rfl))), .pointer (some ⟨b, off + k * 2, none⟩), ?_, rfl⟩
            have e11 : a.eval (.tmp 11) = .pointer (some ⟨b, off + k * 2, none⟩) := (c.new 7 11 (by kernel_rfl) (by kernel_rfl))
            generalize a.eval = ρ at e11 ⊢
            simp [execOp, e11, go_sem]
          · refine op_value fun a w c => ⟨(wanted_yes rfl (by kernel_rfl) (c.new 4 8 (by kernel_rfl) (by kernel_rfl))), .slice A1 n1 cap1, ?_, rfl⟩
            have e12 : a.eval (.tmp 12) = .pointer (some ⟨b, off + k * 2, none⟩) := (c.new 8 12 (by kernel_rfl) (by kernel_rfl))
            have hc := (c.ev.cell (p := ⟨b, off + k * 2, none⟩) hb).trans c1
            generalize a.eval = ρ at e12 ⊢
            simp [execOp, e12, hc, go_sem]
          · refine op_value fun a w c => ⟨(wanted_yes rfl (by kernel_rfl) (c.new 4 8 (by kernel_rfl) (by kernel_rfl))), _, run_move _ rfl w, (c.was 0 (by kernel_rfl) rfl)⟩
          · refine op_value fun a w c => ⟨(wanted_yes rfl (by kernel_rfl) (c.new 4 8 (by kernel_rfl) (by kernel_rfl))), .pointer (some ⟨b, off, none⟩), ?_, rfl⟩
            have e14 : a.eval (.tmp 14) = .slice (some ⟨b, off, none⟩) n cap := (c.new 10 14 (by kernel_rfl) (by kernel_rfl))
            have kc0 : a.eval (.const (.int .i64 0)) = .int .i64 0 := rfl
            generalize a.eval = ρ at e14 kc0 ⊢
            simp [execOp, e14, kc0, go_sem, i5]
          · refine op_value fun a w c => ⟨(wanted_yes rfl (by kernel_rfl) (c.new 4 8 (by kernel_rfl) (by kernel_rfl))), .pointer (some ⟨b, off, none⟩), ?_, rfl⟩
            have e15 : a.eval (.tmp 15) = .pointer (some ⟨b, off, none⟩) := (c.new 11 15 (by kernel_rfl) (by kernel_rfl))
            generalize a.eval = ρ at e15 ⊢
            simp [execOp, e15, go_sem]
          · refine op_value fun a w c => ⟨(wanted_yes rfl (by kernel_rfl) (c.new 4 8 (by kernel_rfl) (by kernel_rfl))), .slice A0 n0 cap0, ?_, rfl⟩
            have e16 : a.eval (.tmp 16) = .pointer (some ⟨b, off, none⟩) := (c.new 12 16 (by kernel_rfl) (by kernel_rfl))
            have hc := (c.ev.cell (p := ⟨b, off, none⟩) hb).trans c0
            generalize a.eval = ρ at e16 ⊢
            simp [execOp, e16, hc, go_sem]
          · refine op_call fun a w c => ⟨(wanted_yes rfl (by kernel_rfl) (c.new 4 8 (by kernel_rfl) (by kernel_rfl))), 77, #[.slice A1 n1 cap1, .slice A0 n0 cap0], ?_, ?_⟩
            · rw [run_call 77 _ _ rfl (by kernel_rfl)]
              have e13 : a.eval (.tmp 13) = .slice A1 n1 cap1 := (c.new 9 13 (by kernel_rfl) (by kernel_rfl))
              have e17 : a.eval (.tmp 17) = .slice A0 n0 cap0 := (c.new 13 17 (by kernel_rfl) (by kernel_rfl))
              simp [e13, e17]
            · refine (HL.out w c.ev).mono ?_
              rintro e w2 ⟨rfl, hE⟩
              exact ⟨_, rfl, hE, rfl⟩
          · refine op_value fun a w c => ⟨(wanted_plain rfl), _, run_pick_true rfl (c.new 4 8 (by kernel_rfl) (by kernel_rfl)) w, (c.new 14 18 (by kernel_rfl) (by kernel_rfl))⟩
        intro s w4 hEr hold hnew
        have f0 : s 0 = .slice (some ⟨b, off, none⟩) n cap := hold 0 (by kernel_rfl)
        have f1 : s 1 = undef := hold 1 (by kernel_rfl)
        have f2 : s 2 = .int .i64 0 := hold 2 (by kernel_rfl)
        have f3 : s 3 = .int .i64 (k : Int) := hold 3 (by kernel_rfl)
        have f22 : s 22 = undef := hold 22 (by kernel_rfl)
        have f4 : s 4 = .int .i64 (k : Int) := hnew 0 4 (by kernel_rfl)
        have f5 : s 5 = .slice (some ⟨b, off, none⟩) n cap := hnew 1 5 (by kernel_rfl)
        have f6 : s 6 = .int .i64 (n : Int) := hnew 2 6 (by kernel_rfl)
        have f7 : s 7 = .bool true := hnew 3 7 (by kernel_rfl)
        have f8 : s 8 = .bool true := hnew 4 8 (by kernel_rfl)
        have f9 : s 9 = .slice (some ⟨b, off, none⟩) n cap := hnew 5 9 (by kernel_rfl)
        have f10 : s 10 = .int .i64 (k : Int) := hnew 6 10 (by kernel_rfl)
        have f11 : s 11 = .pointer (some ⟨b, off + k * 2, none⟩) := hnew 7 11 (by kernel_rfl)
        have f12 : s 12 = .pointer (some ⟨b, off + k * 2, none⟩) := hnew 8 12 (by kernel_rfl)
        have f13 : s 13 = .slice A1 n1 cap1 := hnew 9 13 (by kernel_rfl)
        have f14 : s 14 = .slice (some ⟨b, off, none⟩) n cap := hnew 10 14 (by kernel_rfl)
        have f15 : s 15 = .pointer (some ⟨b, off, none⟩) := hnew 11 15 (by kernel_rfl)
        have f16 : s 16 = .pointer (some ⟨b, off, none⟩) := hnew 12 16 (by kernel_rfl)
        have f17 : s 17 = .slice A0 n0 cap0 := hnew 13 17 (by kernel_rfl)
        have f18 : s 18 = .bool false := hnew 14 18 (by kernel_rfl)
        have f19 : s 19 = .bool false := hnew 15 19 (by kernel_rfl)
        change Exit.then _ _ .normal ⟨#[s 0, s 1, s 2, s 3, s 4, s 5, s 6, s 7, s 8, s 9, s 10, s 11, s 12, s 13, s 14, s 15, s 16, s 17, s 18, s 19, s 20, s 21, s 22], _⟩ _
        simp only [f0, f1, f2, f3, f22, f4, f5, f6, f7, f8, f9, f10, f11, f12, f13, f14, f15, f16, f17, f18, f19]
        clear hold hnew
        go_wp2
        go_ret
        refine ⟨⟨k, rfl, by rw [HN.out]; omega, hk1, HT.out, fun x z hx hz => ?_⟩, hE.trans hEr⟩
        rw [HX0.out] at hz
        rw [HX1.out] at hx
        obtain rfl := Option.some.inj hx
        obtain rfl := Option.some.inj hz
        exact HLS.out
      · go_wp2_with fail
        refine wp_region_slots hmix [fun v _ => v = .int .i64 (k : Int), fun v _ => v = .slice (some ⟨b, off, none⟩) n cap, fun v _ => v = .int .i64 (n : Int), fun v _ => v = .bool true, fun v _ => v = .bool true, fun v _ => v = .slice (some ⟨b, off, none⟩) n cap, fun v _ => v = .int .i64 (k : Int), fun v _ => v = .pointer (some ⟨b, off + k * 2, none⟩), fun v _ => v = .pointer (some ⟨b, off + k * 2, none⟩), fun v _ => v = .slice A1 n1 cap1, fun v _ => v = .slice (some ⟨b, off, none⟩) n cap, fun v _ => v = .pointer (some ⟨b, off, none⟩), fun v _ => v = .pointer (some ⟨b, off, none⟩), fun v _ => v = .slice A0 n0 cap0, fun v _ => v = .bool true, fun v _ => v = .bool true]
          23 rfl (by kernel_rfl) ⟨mono_eq _, mono_eq _, mono_eq _, mono_eq _, mono_eq _, mono_eq _, mono_eq _, mono_eq _, mono_eq _, mono_eq _, mono_eq _, mono_eq _, mono_eq _, mono_eq _, mono_eq _, mono_eq _, trivial⟩ ?_ ?_
        · refine ops_cons 0 ?_ (ops_cons 1 ?_ (ops_cons 2 ?_ (ops_cons 3 ?_ (ops_cons 4 ?_ (ops_cons 5 ?_ (ops_cons 6 ?_ (ops_cons 7 ?_ (ops_cons 8 ?_ (ops_cons 9 ?_ (ops_cons 10 ?_ (ops_cons 11 ?_ (ops_cons 12 ?_ (ops_cons 13 ?_ (ops_cons 14 ?_ (ops_cons 15 ?_ (ops_nil 16))))))))))))))))
          · refine op_value fun a w c => ⟨(wanted_plain rfl), _, run_move _ rfl w, (c.was 3 (by kernel_rfl) rfl)⟩
          · refine op_value fun a w c => ⟨(wanted_plain rfl), _, run_move _ rfl w, (c.was 0 (by kernel_rfl) rfl)⟩
          · refine op_value fun a w c => ⟨(wanted_plain rfl), _, run_len_items rfl ((c.new 1 5 (by kernel_rfl) (by kernel_rfl)) : a.eval (.tmp 5) = .slice (some ⟨b, off, none⟩) n cap) w, rfl⟩
          · refine op_value fun a w c => ⟨(wanted_plain rfl), .bool true, ?_, rfl⟩
            have e4 : a.eval (.tmp 4) = .int .i64 (k : Int) := (c.new 0 4 (by kernel_rfl) (by kernel_rfl))
            have e6 : a.eval (.tmp 6) = .int .i64 (n : Int) := (c.new 2 6 (by kernel_rfl) (by kernel_rfl))
            generalize a.eval = ρ at e4 e6 ⊢
            simp [execOp, e4, e6, go_sem, i2]
          · refine op_value fun a w c => ⟨(wanted_plain rfl), _, run_move _ rfl w, (c.new 3 7 (by kernel_rfl) (by kernel_rfl))⟩
          · refine op_value fun a w c => ⟨(wanted_yes rfl (by kernel_rfl) (c.new 4 8 (by kernel_rfl) (by kernel_rfl))), _, run_move _ rfl w, (c.was 0 (by kernel_rfl) rfl)⟩
          · refine op_value fun a w c => ⟨(wanted_yes rfl (by kernel_rfl) (c.new 4 8 (by kernel_rfl) (by kernel_rfl))), _, run_move _ rfl w, (c.was 3 (by kernel_rfl) rfl)⟩
          · refine op_value fun a w c => ⟨(wanted_yes rfl (by kernel_rfl) (c.new 4 8 (by kernel_rfl) (by kernel_rfl))), .pointer (some ⟨b, off + k * 2, none⟩), ?_, rfl⟩
            have e9 : a.eval (.tmp 9) = .slice (some ⟨b, off, none⟩) n cap := (c.new 5 9 (by kernel_rfl) (by kernel_rfl))
            have e10 : a.eval (.tmp 10) = .int .i64 (k : Int) := (c.new 6 10 (by kernel_rfl) (by kernel_rfl))
            generalize a.eval = ρ at e9 e10 ⊢
            simp [execOp, e9, e10, go_sem, i1, i2]
          · refine op_value fun a w c => ⟨(wanted_yes rfl (by kernel_rfl) (c.new 4 8 (by kernel_rfl) (by kernel_rfl))), .pointer (some ⟨b, off + k * 2, none⟩), ?_, rfl⟩
            have e11 : a.eval (.tmp 11) = .pointer (some ⟨b, off + k * 2, none⟩) := (c.new 7 11 (by kernel_rfl) (by kernel_rfl))
            generalize a.eval = ρ at e11 ⊢
            simp [execOp, e11, go_sem]
          · refine op_value fun a w c => ⟨(wanted_yes rfl (by kernel_rfl) (c.new 4 8 (by kernel_rfl) (by kernel_rfl))), .slice A1 n1 cap1, ?_, rfl⟩
            have e12 : a.eval (.tmp 12) = .pointer (some ⟨b, off + k * 2, none⟩) := (c.new 8 12 (by kernel_rfl) (by kernel_rfl))
            have hc := (c.ev.cell (p := ⟨b, off + k * 2, none⟩) hb).trans c1
            generalize a.eval = ρ at e12 ⊢
            simp [execOp, e12, hc, go_sem]
          · refine op_value fun a w c => ⟨(wanted_yes rfl (by kernel_rfl) (c.new 4 8 (by kernel_rfl) (by kernel_rfl))), _, run_move _ rfl w, (c.was 0 (by kernel_rfl) rfl)⟩
          · refine op_value fun a w c => ⟨(wanted_yes rfl (by kernel_rfl) (c.new 4 8 (by kernel_rfl) (by kernel_rfl))), .pointer (some ⟨b, off, none⟩), ?_, rfl⟩
            have e14 : a.eval (.tmp 14) = .slice (some ⟨b, off, none⟩) n cap := (c.new 10 14 (by kernel_rfl) (by kernel_rfl))
            have kc0 : a.eval (.const (.int .i64 0)) = .int .i64 0 := rfl
            generalize a.eval = ρ at e14 kc0 ⊢
            simp [execOp, e14, kc0, go_sem, i5]
          · refine op_value fun a w c => ⟨(wanted_yes rfl (by kernel_rfl) (c.new 4 8 (by kernel_rfl) (by kernel_rfl))), .pointer (some ⟨b, off, none⟩), ?_, rfl⟩
            have e15 : a.eval (.tmp 15) = .pointer (some ⟨b, off, none⟩) := (c.new 11 15 (by kernel_rfl) (by kernel_rfl))
            generalize a.eval = ρ at e15 ⊢
            simp [execOp, e15, go_sem]
          · refine op_value fun a w c => ⟨(wanted_yes rfl (by kernel_rfl) (c.new 4 8 (by kernel_rfl) (by kernel_rfl))), .slice A0 n0 cap0, ?_, rfl⟩
            have e16 : a.eval (.tmp 16) = .pointer (some ⟨b, off, none⟩) := (c.new 12 16 (by kernel_rfl) (by kernel_rfl))
            have hc := (c.ev.cell (p := ⟨b, off, none⟩) hb).trans c0
            generalize a.eval = ρ at e16 ⊢
            simp [execOp, e16, hc, go_sem]
          · refine op_call fun a w c => ⟨(wanted_yes rfl (by kernel_rfl) (c.new 4 8 (by kernel_rfl) (by kernel_rfl))), 77, #[.slice A1 n1 cap1, .slice A0 n0 cap0], ?_, ?_⟩
            · rw [run_call 77 _ _ rfl (by kernel_rfl)]
              have e13 : a.eval (.tmp 13) = .slice A1 n1 cap1 := (c.new 9 13 (by kernel_rfl) (by kernel_rfl))
              have e17 : a.eval (.tmp 17) = .slice A0 n0 cap0 := (c.new 13 17 (by kernel_rfl) (by kernel_rfl))
              simp [e13, e17]
            · refine (HL.out w c.ev).mono ?_
              rintro e w2 ⟨rfl, hE⟩
              exact ⟨_, rfl, hE, rfl⟩
          · refine op_value fun a w c => ⟨(wanted_plain rfl), _, run_pick_true rfl (c.new 4 8 (by kernel_rfl) (by kernel_rfl)) w, (c.new 14 18 (by kernel_rfl) (by kernel_rfl))⟩
        intro s w4 hEr hold hnew
        have f0 : s 0 = .slice (some ⟨b, off, none⟩) n cap := hold 0 (by kernel_rfl)
        have f1 : s 1 = undef := hold 1 (by kernel_rfl)
        have f2 : s 2 = .int .i64 0 := hold 2 (by kernel_rfl)
        have f3 : s 3 = .int .i64 (k : Int) := hold 3 (by kernel_rfl)
        have f22 : s 22 = undef := hold 22 (by kernel_rfl)
        have f4 : s 4 = .int .i64 (k : Int) := hnew 0 4 (by kernel_rfl)
        have f5 : s 5 = .slice (some ⟨b, off, none⟩) n cap := hnew 1 5 (by kernel_rfl)
        have f6 : s 6 = .int .i64 (n : Int) := hnew 2 6 (by kernel_rfl)
        have f7 : s 7 = .bool true := hnew 3 7 (by kernel_rfl)
        have f8 : s 8 = .bool true := hnew 4 8 (by kernel_rfl)
        have f9 : s 9 = .slice (some ⟨b, off, none⟩) n cap := hnew 5 9 (by kernel_rfl)
        have f10 : s 10 = .int .i64 (k : Int) := hnew 6 10 (by kernel_rfl)
        have f11 : s 11 = .pointer (some ⟨b, off + k * 2, none⟩) := hnew 7 11 (by kernel_rfl)
        have f12 : s 12 = .pointer (some ⟨b, off + k * 2, none⟩) := hnew 8 12 (by kernel_rfl)
        have f13 : s 13 = .slice A1 n1 cap1 := hnew 9 13 (by kernel_rfl)
        have f14 : s 14 = .slice (some ⟨b, off, none⟩) n cap := hnew 10 14 (by kernel_rfl)
        have f15 : s 15 = .pointer (some ⟨b, off, none⟩) := hnew 11 15 (by kernel_rfl)
        have f16 : s 16 = .pointer (some ⟨b, off, none⟩) := hnew 12 16 (by kernel_rfl)
        have f17 : s 17 = .slice A0 n0 cap0 := hnew 13 17 (by kernel_rfl)
        have f18 : s 18 = .bool true := hnew 14 18 (by kernel_rfl)
        have f19 : s 19 = .bool true := hnew 15 19 (by kernel_rfl)
        change Exit.then _ _ .normal ⟨#[s 0, s 1, s 2, s 3, s 4, s 5, s 6, s 7, s 8, s 9, s 10, s 11, s 12, s 13, s 14, s 15, s 16, s 17, s 18, s 19, s 20, s 21, s 22], _⟩ _
        simp only [f0, f1, f2, f3, f22, f4, f5, f6, f7, f8, f9, f10, f11, f12, f13, f14, f15, f16, f17, f18, f19]
        clear hold hnew
        generalize s 20 = u20
        generalize s 21 = u21
        go_wp2
        go_roundw
        case rel =>
          refine ⟨k + 1, by omega, by omega, by go_num, Lib.hid (fun i x z hi hx hz => ?_), hE.trans hEr⟩
          by_cases hij : i < k
          · exact HT.out i x z hij hx hz
          · obtain rfl : i = k := by omega
            rw [HX0.out] at hz
            rw [HX1.out] at hx
            obtain rfl := Option.some.inj hx
            obtain rfl := Option.some.inj hz
            exact HLS.out
        case measure => simp [intOf]; omega
    · obtain rfl : k = n := by omega
      have HF : Hid (Reps Z k) := Lib.hid ⟨by rw [HN.out]; omega, hk1, HT.out, fun x z hx hz => by
        have := (List.getElem?_eq_some_iff.1 hx).1
        rw [HN.out] at this; omega⟩
      have i2 : ¬ (k : Int) < (k : Int) := by omega
      go_wp2_with fail
      go_quiet (fail)
      go_wp2
      go_ret
      exact ⟨⟨k, rfl, HF.out⟩, hE.trans (Ev.drewN _ _)⟩
end Go.Proofs.YthpiobkghfdkkaaGreat

namespace Go.Proofs.YthpiobkghfdkkaaGreat
open Go.RowKit
set_option linter.unusedVariables false

/-- A new slice of one item. -/
theorem run_build_item {ρ : Operand → Value} {o : Oper} {x : Operand} {z : J} (ho : o.op = .buildSlice 40 1 #[(0, x)]) (h : ρ x = jv z) (w : World) :
    (execOp ρ o).run Tryz.prog w = .ok (.value (.slice (some ⟨w.heap.size, 0, none⟩) 1 1)) (w.alloc (.cells #[jrow z, jtal z] 62)) := by
  unfold jv jrow jtal at h
  unfold jrow jtal
  unfold execOp
  rw [ho]
  simp [h, go_sem]
def OneItem (g0 : Nat) (z : J) (v : Value) (w : World) : Prop := ∃ p, v = .slice (some ⟨p, 0, none⟩) 1 1 ∧ Js w (some ⟨p, 0, none⟩) 1 1 [z] ∧ g0 ≤ p ∧ p < w.heap.size
theorem OneItem.mono {g0 : Nat} {z : J} : Mono (OneItem g0 z) := fun v w w' hE ⟨p, e, h, hg, hp⟩ => ⟨p, e, h.ev hE, hg, Nat.lt_of_lt_of_le hp hE.size⟩
theorem OneItem.monoB {g0 : Nat} {z : J} {K : List Nat} (hK : ∀ k ∈ K, k < g0) : MonoB K (OneItem g0 z) := fun v w w' hE ⟨p, e, h, hg, hp⟩ => ⟨p, e, h.but hE (by rintro ad ⟨⟩ hm; have := hK _ hm; simp only at this; omega), hg, Nat.lt_of_lt_of_le hp hE.size⟩
theorem OneItem.new {w0 w : World} {z : J} (h : w0.heap.size ≤ w.heap.size) : OneItem w0.heap.size z (.slice (some ⟨w.heap.size, 0, none⟩) 1 1) (w.alloc (.cells #[jrow z, jtal z] 62)) := ⟨w.heap.size, rfl, Js.one w z, h, by simp⟩
/-- The slice v, which was vk in w4, holds the items now. -/
def Grown2 (w4 : World) (vk : Value) (Z : List J) (v : Value) (w : World) : Prop := Zrow w v Z ∧ Sprung w4 vk v
theorem Grown2.mono {w4 : World} {vk : Value} {Z : List J} : Mono (Grown2 w4 vk Z) := fun v w w' hE ⟨h, hs⟩ => ⟨h.ev hE, hs⟩
theorem Sprung.after {w0 w : World} {a b : Value} (h : Sprung w a b) (hs : w0.heap.size ≤ w.heap.size) : Sprung w0 a b := fun g hg => (h g hg).imp id fun h1 => Nat.le_trans hs h1
theorem OneItem.append {w4 w : World} {z : J} {v vk : Value} {Z : List J} (h : OneItem w4.heap.size z v w) (T ty : TypeId)
    (ht : Tryz.prog.underlying T = some (.slice 62)) (hi : (Tryz.prog.info? 62).map (fun i => (i.zero, i.size, i.bytes)) = some (some (.agg #[.slice none 0 0, .complex .f64 0 0]), 2, 40))
    (hE : Ev w4 w) (hZ : Zrow w4 vk Z) (hv : Vs w4 z.1.1 z.1.2.1 z.1.2.2 z.2.1) (hb : ∀ ad, z.1.1 = some ad → ad.block < w4.heap.size ∧ vk.ownBlock ≠ some ad.block) (hsz : (Z.length + 1) * 40 ≤ 140737488355328) :
    ∃ v' w', (Builtin.append_ #[T, T] ty #[vk, v]).run Tryz.prog w = .ok v' w' ∧ Grown2 w4 vk (Z ++ [z]) v' w' ∧ But (foot vk) w w' := by
  obtain ⟨p, rfl, hJ, _, _⟩ := h
  obtain ⟨v', w', hr, hz, hbt, hsp⟩ := run_append_items (P := Tryz.prog) (w := w) T ty ht hi vk Z (hZ.ev hE) (some ⟨p, 0, none⟩) 1 1 [z] hJ (fun x hx => by
    rw [List.mem_singleton.1 hx]
    exact ⟨hv.ev hE, fun ad e => ⟨Nat.lt_of_lt_of_le (hb ad e).1 hE.size, (hb ad e).2⟩⟩) hsz
  exact ⟨v', w', hr, ⟨hz, hsp.after hE.size⟩, hbt⟩
theorem mergeF_less {X Y : List J} {x y : J} (hx : X[0]? = some x) (hy : Y[0]? = some y) (h : lessR y.2.1 x.2.1 = true) : mergeF keyJ X Y = y :: mergeF keyJ X (Y.drop 1) := by
  cases X with
  | nil => simp at hx
  | cons a X =>
    cases Y with
    | nil => simp at hy
    | cons b Y =>
      simp at hx hy
      subst hx; subst hy
      rw [mergeF, if_pos (show lessR (keyJ b) (keyJ a) = true from h)]; rfl
theorem mergeF_nless {X Y : List J} {x y : J} (hx : X[0]? = some x) (hy : Y[0]? = some y) (h : lessR y.2.1 x.2.1 = false) : mergeF keyJ X Y = x :: mergeF keyJ (X.drop 1) Y := by
  cases X with
  | nil => simp at hx
  | cons a X =>
    cases Y with
    | nil => simp at hy
    | cons b Y =>
      simp at hx hy
      subst hx; subst hy
      rw [mergeF, if_neg (show ¬ lessR (keyJ b) (keyJ a) = true by unfold keyJ; rw [h]; exact Bool.false_ne_true)]; rfl
def slen : Value → Nat
  | .slice _ n _ => n
  | _ => 0
/-- What a merge has come to. -/
structure Merging (b0 : Nat) (w : World) (v : Value) (M X Y : List J) (N : Nat) (vk : Value) (P : List J) (A1 : Option Addr) (n1 c1 : Nat) (X1 : List J) (A2 : Option Addr) (m1 c2 : Nat) (Y1 : List J) (wr : World) : Prop where
  own : Zrow wr vk (M ++ P)
  a : Zs b0 wr A1 n1 c1 X1
  b : Zs b0 wr A2 m1 c2 Y1
  eq : mergeF keyJ X Y = P ++ mergeF keyJ X1 Y1
  but : But (foot v) w wr
  spr : Sprung w v vk
  high : ∀ g, vk.ownBlock = some g → b0 ≤ g
  size : P.length + n1 + m1 = N
theorem Merging.foot_lt {b0 : Nat} {w : World} {v : Value} {M X Y : List J} {N : Nat} {vk : Value} {P : List J} {A1 : Option Addr} {n1 c1 : Nat} {X1 : List J} {A2 : Option Addr} {m1 c2 : Nat} {Y1 : List J} {wr : World} (h : Merging b0 w v M X Y N vk P A1 n1 c1 X1 A2 m1 c2 Y1 wr) {w' : World} (hs : wr.heap.size ≤ w'.heap.size) :
    ∀ k ∈ foot vk, k < w'.heap.size := fun k hk => Nat.lt_of_lt_of_le (h.own.lt (mem_foot.1 hk)) hs
theorem Merging.ev {b0 : Nat} {w : World} {v : Value} {M X Y : List J} {N : Nat} {vk : Value} {P : List J} {A1 : Option Addr} {n1 c1 : Nat} {X1 : List J} {A2 : Option Addr} {m1 c2 : Nat} {Y1 : List J} {wr w' : World} (h : Merging b0 w v M X Y N vk P A1 n1 c1 X1 A2 m1 c2 Y1 wr) (hE : Ev wr w') : Merging b0 w v M X Y N vk P A1 n1 c1 X1 A2 m1 c2 Y1 w' :=
  ⟨h.own.ev hE, h.a.ev hE, h.b.ev hE, h.eq, h.but.then (But.of_ev hE), h.spr, h.high, h.size⟩
/-- A row of the two lists lies where the own slice does not. -/
theorem Merging.apart {b0 : Nat} {w : World} {vk : Value} {A1 : Option Addr} {n1 c1 : Nat} {X1 : List J} (ha : Zs b0 w A1 n1 c1 X1) (high : ∀ g, vk.ownBlock = some g → b0 ≤ g) {z : J} (hz : z ∈ X1) : ∀ ad, z.1.1 = some ad → ad.block < w.heap.size ∧ vk.ownBlock ≠ some ad.block := fun ad e => by
  have h1 := (ha.rows z hz).2 ad e
  exact ⟨Nat.lt_of_lt_of_le h1 ha.base, fun e' => by have := high _ e'; omega⟩
theorem Merging.next {b0 : Nat} {w : World} {v : Value} {M X Y : List J} {N : Nat} {vk : Value} {P : List J} {A1 : Option Addr} {n1 c1 : Nat} {X1 : List J} {A2 : Option Addr} {m1 c2 : Nat} {Y1 : List J} {wr w' : World} (h : Merging b0 w v M X Y N vk P A1 n1 c1 X1 A2 m1 c2 Y1 wr) (hB : But (foot vk) wr w') {vn : Value} {P' : List J} (hG : Grown2 wr vk (M ++ P') vn w')
    {A1' : Option Addr} {n1' c1' : Nat} {X1' : List J} {A2' : Option Addr} {m1' c2' : Nat} {Y1' : List J} (ha : Zs b0 wr A1' n1' c1' X1') (hb : Zs b0 wr A2' m1' c2' Y1') (he : mergeF keyJ X Y = P' ++ mergeF keyJ X1' Y1') (hs : P'.length + n1' + m1' = N) :
    Merging b0 w v M X Y N vn P' A1' n1' c1' X1' A2' m1' c2' Y1' w' := by
  have hbl : Below b0 wr w' := hB.below h.a.base fun k hk => h.high k (mem_foot.1 hk)
  refine ⟨hG.1, ha.below hbl, hb.below hbl, he, h.but.trans hB fun k hk => ?_, h.spr.trans hG.2 h.but.size, fun g hg => ?_, hs⟩
  · rcases h.spr k (mem_foot.1 hk) with h1 | h1
    · exact .inl (mem_foot.2 h1)
    · exact .inr h1
  · rcases hG.2 g hg with h1 | h1
    · exact h.high g h1
    · exact Nat.le_trans h.a.base h1
section
variable {b0 : Nat} {w : World} {v : Value} {M X Y : List J} {N : Nat} {vk : Value} {P : List J} {A1 : Option Addr} {n1 c1 : Nat} {X1 : List J} {A2 : Option Addr} {m1 c2 : Nat} {Y1 : List J} {wr : World}
theorem Merging.rowsA (h : Merging b0 w v M X Y N vk P A1 n1 c1 X1 A2 m1 c2 Y1 wr) : ∀ z ∈ X1, Vs wr z.1.1 z.1.2.1 z.1.2.2 z.2.1 ∧ ∀ ad, z.1.1 = some ad → ad.block < wr.heap.size ∧ vk.ownBlock ≠ some ad.block := fun z hz => ⟨(h.a.rows z hz).1, Merging.apart h.a h.high hz⟩
theorem Merging.rowsB (h : Merging b0 w v M X Y N vk P A1 n1 c1 X1 A2 m1 c2 Y1 wr) : ∀ z ∈ Y1, Vs wr z.1.1 z.1.2.1 z.1.2.2 z.2.1 ∧ ∀ ad, z.1.1 = some ad → ad.block < wr.heap.size ∧ vk.ownBlock ≠ some ad.block := fun z hz => ⟨(h.b.rows z hz).1, Merging.apart h.b h.high hz⟩
theorem Merging.putA (h : Merging b0 w v M X Y N vk P A1 n1 c1 X1 A2 m1 c2 Y1 wr) (hm : mergeF keyJ X1 Y1 = X1 ++ Y1) {vn : Value} {w' : World} (hG : Grown2 wr vk (M ++ (P ++ X1)) vn w') (hB : But (foot vk) wr w') : Merging b0 w v M X Y N vn (P ++ X1) none 0 0 [] A2 m1 c2 Y1 w' :=
  h.next hB hG (Zs.nil_ h.a.base) h.b (by rw [h.eq, hm, mergeF_nil, List.append_assoc]) (by have := h.size; rw [List.length_append, h.a.len]; omega)
theorem Merging.putB (h : Merging b0 w v M X Y N vk P none 0 0 [] A2 m1 c2 Y1 wr) {vn : Value} {w' : World} (hG : Grown2 wr vk (M ++ (P ++ Y1)) vn w') (hB : But (foot vk) wr w') : Merging b0 w v M X Y N vn (P ++ Y1) none 0 0 [] none 0 0 [] w' :=
  h.next hB hG (Zs.nil_ h.a.base) (Zs.nil_ h.a.base) (by rw [h.eq, mergeF_nil, mergeF_nil, List.append_nil]) (by have := h.size; rw [List.length_append, h.b.len]; omega)
end

set_option maxRecDepth 100000 in
set_option maxHeartbeats 8000000 in
theorem zset_merge {b0 : Nat} {v : Value} {A : Option Addr} {n cap : Nat} {X : List J} {A' : Option Addr} {m cap' : Nat} {Y M : List J} (w : World) (hv : Zrow w v M) (hhigh : ∀ g, v.ownBlock = some g → b0 ≤ g) (ha : Zs b0 w A n cap X) (hb : Zs b0 w A' m cap' Y) (hsz : M.length + n + m ≤ 1000000000000) :
    Calls Tryz.prog 118 #[v, .slice A n cap, .slice A' m cap'] w fun e w' => ∃ v', e = .returned v' ∧ Zrow w' v' (M ++ mergeF keyJ X Y) ∧ (∀ g, v'.ownBlock = some g → b0 ≤ g) ∧ But (foot v) w w' ∧ Sprung w v v' := by
  have hmix : Tryz.prog.follows .mixedOrders = true := by kernel_rfl
  have HSTART : Hid (Merging b0 w v M X Y (n + m) v [] A n cap X A' m cap' Y w) := Lib.hid ⟨by simpa using hv, ha, hb, rfl, But.refl _ _, Sprung.refl _ _, hhigh, by simp⟩
  clear hv hhigh ha hb
  go_enter Tryz.func118, Tryz.ntmps118
  go_wp2
  go_loopw [0, 1, 2] (fun vk av bv wr => ∃ P A1 n1 c1 X1 A2 m1 c2 Y1, av = .slice A1 n1 c1 ∧ bv = .slice A2 m1 c2 ∧ Hid (Merging b0 w v M X Y (n + m) vk P A1 n1 c1 X1 A2 m1 c2 Y1 wr)) (fun _ av bv _ => slen av + slen bv)
  case atStart => exact ⟨[], A, n, cap, X, A', m, cap', Y, rfl, rfl, HSTART⟩
  case round =>
    obtain ⟨P, A1, n1, c1, X1, A2, m1, c2, Y1, rfl, rfl, HM⟩ := hrel
    obtain ⟨vk, hvk⟩ : ∃ vk, vk = u0 := ⟨_, rfl⟩
    rw [← hvk] at HM ⊢
    clear hvk
    have hn1 := HM.out.a.le
    have hm1 := HM.out.b.le
    have hc1 := HM.out.a.max
    have hc2 := HM.out.b.max
    have hN := HM.out.size
    by_cases k1 : 0 < n1
    · have i1 : (0 : Int) < (n1 : Int) := by omega
      by_cases k2 : 0 < m1
      · have i2 : (0 : Int) < (m1 : Int) := by omega
        obtain ⟨b1, off1, z1, rfl, hb1, hl1, hx1, c0, c1_, hv1⟩ := HM.out.a.at k1
        obtain ⟨b2, off2, z2, rfl, hb2, hl2, hx2, d0, d1, hv2⟩ := HM.out.b.at k2
        rw [Nat.zero_mul, Nat.add_zero] at c0 c1_ d0 d1
        have j1 : ¬ n1 = 0 := by omega
        have j2 : ¬ m1 = 0 := by omega
        have HL := Lib.hid (fun w1 (h1 : Ev wr w1) => row_less w1 (hv2.ev h1) (hv1.ev h1))
        have HX1 := Lib.hid hx1
        have HX2 := Lib.hid hx2
        have HV1 := Lib.hid hv1
        have HV2 := Lib.hid hv2
        have c0r : wr.cell? ⟨b1, off1, none⟩ = some (.slice z1.1.1 z1.1.2.1 z1.1.2.2) := c0
        have d0r : wr.cell? ⟨b2, off2, none⟩ = some (.slice z2.1.1 z2.1.2.1 z2.1.2.2) := d0
        have HNB : Hid (b1 ∉ foot vk ∧ b2 ∉ foot vk) := Lib.hid ⟨fun hm => (by have := HM.out.high _ (mem_foot.1 hm); omega), fun hm => (by have := HM.out.high _ (mem_foot.1 hm); omega)⟩
        have HNB_z1 := Lib.hid (fun w1 (h1 : Ev wr w1) => Merging.apart (w := w1) (HM.out.a.ev h1) HM.out.high (List.mem_of_getElem? hx1))
        have HNB_z2 := Lib.hid (fun w1 (h1 : Ev wr w1) => Merging.apart (w := w1) (HM.out.b.ev h1) HM.out.high (List.mem_of_getElem? hx2))
        have HSZ : Hid (((M ++ P).length + 1) * 40 ≤ 140737488355328) := Lib.hid (by rw [List.length_append]; omega)
        clear hv1 hv2 hx1 hx2 hl1 hl2
        generalize hl : lessR z2.2.1 z1.2.1 = ls at HL
        have HLS := Lib.hid hl
        clear hl
        cases ls
        · go_wp2_with fail
          refine wp_region_slots hmix [fun v _ => v = .slice (some ⟨b2, off2, none⟩) m1 c2, fun v _ => v = .pointer (some ⟨b2, off2, none⟩), fun v _ => v = .pointer (some ⟨b2, off2, none⟩), fun v _ => v = .slice z2.1.1 z2.1.2.1 z2.1.2.2, fun v _ => v = .slice (some ⟨b1, off1, none⟩) n1 c1, fun v _ => v = .pointer (some ⟨b1, off1, none⟩), fun v _ => v = .pointer (some ⟨b1, off1, none⟩), fun v _ => v = .slice z1.1.1 z1.1.2.1 z1.1.2.2, fun v _ => v = .bool false]
            45 rfl (by kernel_rfl) ⟨mono_eq _, mono_eq _, mono_eq _, mono_eq _, mono_eq _, mono_eq _, mono_eq _, mono_eq _, mono_eq _, trivial⟩ ?_ ?_
          · refine ops_cons 0 ?_ (ops_cons 1 ?_ (ops_cons 2 ?_ (ops_cons 3 ?_ (ops_cons 4 ?_ (ops_cons 5 ?_ (ops_cons 6 ?_ (ops_cons 7 ?_ (ops_cons 8 ?_ (ops_nil 9)))))))))
            · refine op_value fun a w c => ⟨(wanted_plain rfl), _, run_move _ rfl w, (c.was 2 (by kernel_rfl) rfl)⟩
            · refine op_value fun a w c => ⟨(wanted_plain rfl), .pointer (some ⟨b2, off2, none⟩), ?_, rfl⟩
              have e15 : a.eval (.tmp 15) = .slice (some ⟨b2, off2, none⟩) m1 c2 := (c.new 0 15 (by kernel_rfl) (by kernel_rfl))
              have kc0 : a.eval (.const (.int .i64 0)) = .int .i64 0 := rfl
              generalize a.eval = ρ at e15 kc0 ⊢
              simp [execOp, e15, kc0, go_sem, j2]
            · refine op_value fun a w c => ⟨(wanted_plain rfl), .pointer (some ⟨b2, off2, none⟩), ?_, rfl⟩
              have e16 : a.eval (.tmp 16) = .pointer (some ⟨b2, off2, none⟩) := (c.new 1 16 (by kernel_rfl) (by kernel_rfl))
              generalize a.eval = ρ at e16 ⊢
              simp [execOp, e16, go_sem]
            · refine op_value fun a w c => ⟨(wanted_plain rfl), .slice z2.1.1 z2.1.2.1 z2.1.2.2, ?_, rfl⟩
              have e17 : a.eval (.tmp 17) = .pointer (some ⟨b2, off2, none⟩) := (c.new 2 17 (by kernel_rfl) (by kernel_rfl))
              have hc := (c.ev.cell (p := ⟨b2, off2, none⟩) hb2).trans d0r
              generalize a.eval = ρ at e17 ⊢
              simp [execOp, e17, hc, go_sem]
            · refine op_value fun a w c => ⟨(wanted_plain rfl), _, run_move _ rfl w, (c.was 1 (by kernel_rfl) rfl)⟩
            · refine op_value fun a w c => ⟨(wanted_plain rfl), .pointer (some ⟨b1, off1, none⟩), ?_, rfl⟩
              have e19 : a.eval (.tmp 19) = .slice (some ⟨b1, off1, none⟩) n1 c1 := (c.new 4 19 (by kernel_rfl) (by kernel_rfl))
              have kc0 : a.eval (.const (.int .i64 0)) = .int .i64 0 := rfl
              generalize a.eval = ρ at e19 kc0 ⊢
              simp [execOp, e19, kc0, go_sem, j1]
            · refine op_value fun a w c => ⟨(wanted_plain rfl), .pointer (some ⟨b1, off1, none⟩), ?_, rfl⟩
              have e20 : a.eval (.tmp 20) = .pointer (some ⟨b1, off1, none⟩) := (c.new 5 20 (by kernel_rfl) (by kernel_rfl))
              generalize a.eval = ρ at e20 ⊢
              simp [execOp, e20, go_sem]
            · refine op_value fun a w c => ⟨(wanted_plain rfl), .slice z1.1.1 z1.1.2.1 z1.1.2.2, ?_, rfl⟩
              have e21 : a.eval (.tmp 21) = .pointer (some ⟨b1, off1, none⟩) := (c.new 6 21 (by kernel_rfl) (by kernel_rfl))
              have hc := (c.ev.cell (p := ⟨b1, off1, none⟩) hb1).trans c0r
              generalize a.eval = ρ at e21 ⊢
              simp [execOp, e21, hc, go_sem]
            · refine op_call fun a w c => ⟨(wanted_plain rfl), 76, #[.slice z2.1.1 z2.1.2.1 z2.1.2.2, .slice z1.1.1 z1.1.2.1 z1.1.2.2], ?_, ?_⟩
              · rw [run_call 76 _ _ rfl (by kernel_rfl)]
                have e18 : a.eval (.tmp 18) = .slice z2.1.1 z2.1.2.1 z2.1.2.2 := (c.new 3 18 (by kernel_rfl) (by kernel_rfl))
                have e22 : a.eval (.tmp 22) = .slice z1.1.1 z1.1.2.1 z1.1.2.2 := (c.new 7 22 (by kernel_rfl) (by kernel_rfl))
                simp [e18, e22]
              · refine (HL.out w c.ev).mono ?_
                rintro e w2 ⟨rfl, hE⟩
                exact ⟨_, rfl, hE, rfl⟩
          intro s w4 hEr hold hnew
          have f0 : s 0 = vk := hold 0 (by kernel_rfl)
          have f1 : s 1 = .slice (some ⟨b1, off1, none⟩) n1 c1 := hold 1 (by kernel_rfl)
          have f2 : s 2 = .slice (some ⟨b2, off2, none⟩) m1 c2 := hold 2 (by kernel_rfl)
          have f3 : s 3 = undef := hold 3 (by kernel_rfl)
          have f4 : s 4 = undef := hold 4 (by kernel_rfl)
          have f5 : s 5 = undef := hold 5 (by kernel_rfl)
          have f6 : s 6 = .slice none 0 0 := hold 6 (by kernel_rfl)
          have f40 : s 40 = undef := hold 40 (by kernel_rfl)
          have f41 : s 41 = undef := hold 41 (by kernel_rfl)
          have f42 : s 42 = undef := hold 42 (by kernel_rfl)
          have f43 : s 43 = undef := hold 43 (by kernel_rfl)
          have f44 : s 44 = undef := hold 44 (by kernel_rfl)
          have f15 : s 15 = .slice (some ⟨b2, off2, none⟩) m1 c2 := hnew 0 15 (by kernel_rfl)
          have f16 : s 16 = .pointer (some ⟨b2, off2, none⟩) := hnew 1 16 (by kernel_rfl)
          have f17 : s 17 = .pointer (some ⟨b2, off2, none⟩) := hnew 2 17 (by kernel_rfl)
          have f18 : s 18 = .slice z2.1.1 z2.1.2.1 z2.1.2.2 := hnew 3 18 (by kernel_rfl)
          have f19 : s 19 = .slice (some ⟨b1, off1, none⟩) n1 c1 := hnew 4 19 (by kernel_rfl)
          have f20 : s 20 = .pointer (some ⟨b1, off1, none⟩) := hnew 5 20 (by kernel_rfl)
          have f21 : s 21 = .pointer (some ⟨b1, off1, none⟩) := hnew 6 21 (by kernel_rfl)
          have f22 : s 22 = .slice z1.1.1 z1.1.2.1 z1.1.2.2 := hnew 7 22 (by kernel_rfl)
          have f23 : s 23 = .bool false := hnew 8 23 (by kernel_rfl)
          change Exit.then _ _ .normal ⟨#[s 0, s 1, s 2, s 3, s 4, s 5, s 6, s 7, s 8, s 9, s 10, s 11, s 12, s 13, s 14, s 15, s 16, s 17, s 18, s 19, s 20, s 21, s 22, s 23, s 24, s 25, s 26, s 27, s 28, s 29, s 30, s 31, s 32, s 33, s 34, s 35, s 36, s 37, s 38, s 39, s 40, s 41, s 42, s 43, s 44], _⟩ _
          simp only [f0, f1, f2, f3, f4, f5, f6, f40, f41, f42, f43, f44, f15, f16, f17, f18, f19, f20, f21, f22, f23]
          clear hold hnew
          generalize s 7 = u7
          generalize s 8 = u8
          generalize s 9 = u9
          generalize s 10 = u10
          generalize s 11 = u11
          generalize s 12 = u12
          generalize s 13 = u13
          generalize s 14 = u14
          generalize s 24 = u24
          generalize s 25 = u25
          generalize s 26 = u26
          generalize s 27 = u27
          generalize s 28 = u28
          generalize s 29 = u29
          generalize s 30 = u30
          generalize s 31 = u31
          generalize s 32 = u32
          generalize s 33 = u33
          generalize s 34 = u34
          generalize s 35 = u35
          generalize s 36 = u36
          generalize s 37 = u37
          generalize s 38 = u38
          generalize s 39 = u39
          go_wp2_with fail
          replace c0 := (hEr.cell (p := ⟨b1, off1, none⟩) hb1).trans c0
          replace c1_ := (hEr.cell (p := ⟨b1, off1 + 1, none⟩) hb1).trans c1_
          replace d0 := (hEr.cell (p := ⟨b2, off2, none⟩) hb2).trans d0
          replace d1 := (hEr.cell (p := ⟨b2, off2 + 1, none⟩) hb2).trans d1
          have HRZ_z1 := Lib.hid (HV1.out.ev hEr)
          have HRZ_z2 := Lib.hid (HV2.out.ev hEr)
          replace HNB_z1 := Lib.hid (HNB_z1.out w4 hEr)
          replace HNB_z2 := Lib.hid (HNB_z2.out w4 hEr)
          clear c0r d0r
          have HM4 := HM.out.ev hEr
          have hZk := HM4.own
          have HKS : Hid (∀ k ∈ foot vk, k < w4.heap.size) := Lib.hid (HM.out.foot_lt hEr.size)
          replace hb1 : b1 < w4.heap.size := Nat.lt_of_lt_of_le hb1 hEr.size
          replace hb2 : b2 < w4.heap.size := Nat.lt_of_lt_of_le hb2 hEr.size
          refine wp_region_slotsB hmix (foot vk) 5 [fun v _ => v = vk, fun v _ => v = .slice (some ⟨b1, off1, none⟩) n1 c1, fun v _ => v = .pointer (some ⟨b1, off1, none⟩), fun v _ => v = jv z1, OneItem w4.heap.size z1, Grown2 w4 vk (M ++ P ++ [z1]), fun v _ => v = .slice (some ⟨b1, off1, none⟩) n1 c1, fun v _ => v = .slice (fromS 2 (some ⟨b1, off1, none⟩) c1 1) (n1 - 1) (c1 - 1), Grown2 w4 vk (M ++ P ++ [z1]), fun v _ => v = .slice (fromS 2 (some ⟨b1, off1, none⟩) c1 1) (n1 - 1) (c1 - 1)]
            45 rfl (by kernel_rfl) ⟨mono_eq _, mono_eq _, mono_eq _, mono_eq _, OneItem.mono, Grown2.mono, mono_eq _, mono_eq _, Grown2.mono, mono_eq _, trivial⟩ ⟨.inr (.inr (monoB_eq _ _)), .inr (.inr (monoB_eq _ _)), .inr (.inr (monoB_eq _ _)), .inr (.inr (monoB_eq _ _)), .inr (.inr (OneItem.monoB (fun k hk => HKS.out k hk))), .inl rfl, .inr (.inr (monoB_eq _ _)), .inr (.inr (monoB_eq _ _)), .inr (.inl (by kernel_rfl)), .inr (.inr (monoB_eq _ _)), trivial⟩ ?_ ?_
          · refine ops_cons 0 ?_ (ops_cons 1 ?_ (ops_cons 2 ?_ (ops_cons 3 ?_ (ops_cons 4 ?_ (ops_cons 5 ?_ (ops_cons 6 ?_ (ops_cons 7 ?_ (ops_cons 8 ?_ (ops_cons 9 ?_ (ops_nil 10))))))))))
            · refine opb_value fun a w c => ⟨(wanted_plain rfl), _, run_move _ rfl w, (c.was 0 (by kernel_rfl) rfl)⟩
            · refine opb_value fun a w c => ⟨(wanted_plain rfl), _, run_move _ rfl w, (c.was 1 (by kernel_rfl) rfl)⟩
            · refine opb_value fun a w c => ⟨(wanted_plain rfl), .pointer (some ⟨b1, off1, none⟩), ?_, rfl⟩
              have e33 : a.eval (.tmp 33) = .slice (some ⟨b1, off1, none⟩) n1 c1 := (c.new 1 33 (by kernel_rfl) (by kernel_rfl))
              have kc0 : a.eval (.const (.int .i64 0)) = .int .i64 0 := rfl
              generalize a.eval = ρ at e33 kc0 ⊢
              simp [execOp, e33, kc0, go_sem, j1]
            · refine opb_value fun a w c => ⟨(wanted_plain rfl), _, run_load_item rfl ((c.new 2 34 (by kernel_rfl) (by kernel_rfl)) : a.eval (.tmp 34) = .pointer (some ⟨b1, off1, none⟩)) (by rw [World.cell?_of_block (w := w4) (c.but.block _ hb1 HNB.out.1)]; exact c0) (by rw [World.cell?_of_block (w := w4) (c.but.block _ hb1 HNB.out.1)]; exact c1_), rfl⟩
            · refine opb_makes fun a w c => ⟨(wanted_plain rfl), _, _, run_build_item rfl ((c.new 3 35 (by kernel_rfl) (by kernel_rfl)) : a.eval (.tmp 35) = jv z1) w, Turns.of_ev (Ev.alloc _ _), OneItem.new c.but.size⟩
            · refine opb_makes fun a w c => ?_
              have e_ : a.eval (.tmp 32) = vk := (c.new 0 32 (by kernel_rfl) (by kernel_rfl))
              have hO_ : OneItem w4.heap.size z1 (a.eval (.tmp 36)) w := (c.new 4 36 (by kernel_rfl) (by kernel_rfl))
              obtain ⟨v_, w_, hr_, hG_, hT_⟩ := hO_.append 40 40 Tryz.underlying40 Tryz.infoItem (c.evm rfl) hZk HRZ_z1.out HNB_z1.out HSZ.out
              refine ⟨(wanted_plain rfl), v_, w_, ?_, Turns.self hT_, hG_⟩
              unfold execOp
              simp only [resolve, invoke, builtin, Sem.run_bind, Sem.run_pure, Result.andThen_ok, List.map_toArray, List.map_cons, List.map_nil, e_, hr_]
            · refine opb_value fun a w c => ⟨(wanted_plain rfl), _, run_move _ rfl w, (c.was 1 (by kernel_rfl) rfl)⟩
            · refine opb_value fun a w c => ⟨(wanted_plain rfl), _, run_from_items 1 rfl ((c.new 6 38 (by kernel_rfl) (by kernel_rfl)) : a.eval (.tmp 38) = .slice (some ⟨b1, off1, none⟩) n1 c1) rfl (by omega) (by omega) w, rfl⟩
            · refine opb_value fun a w c => ⟨(wanted_plain rfl), _, run_assign _ rfl w, ((c.new 5 37 (by kernel_rfl) (by kernel_rfl)))⟩
            · refine opb_value fun a w c => ⟨(wanted_plain rfl), _, run_assign _ rfl w, (c.new 7 39 (by kernel_rfl) (by kernel_rfl))⟩
          intro s w5 hB hold hnew
          have f2 : s 2 = .slice (some ⟨b2, off2, none⟩) m1 c2 := hold 2 (by kernel_rfl)
          have f3 : s 3 = undef := hold 3 (by kernel_rfl)
          have f4 : s 4 = undef := hold 4 (by kernel_rfl)
          have f5 : s 5 = undef := hold 5 (by kernel_rfl)
          have f6 : s 6 = .slice none 0 0 := hold 6 (by kernel_rfl)
          have f40 : s 40 = undef := hold 40 (by kernel_rfl)
          have f41 : s 41 = undef := hold 41 (by kernel_rfl)
          have f42 : s 42 = undef := hold 42 (by kernel_rfl)
          have f43 : s 43 = undef := hold 43 (by kernel_rfl)
          have f44 : s 44 = undef := hold 44 (by kernel_rfl)
          have f1 : s 1 = .slice (fromS 2 (some ⟨b1, off1, none⟩) c1 1) (n1 - 1) (c1 - 1) := hnew 9 1 (by kernel_rfl)
          have f32 : s 32 = vk := hnew 0 32 (by kernel_rfl)
          have f33 : s 33 = .slice (some ⟨b1, off1, none⟩) n1 c1 := hnew 1 33 (by kernel_rfl)
          have f34 : s 34 = .pointer (some ⟨b1, off1, none⟩) := hnew 2 34 (by kernel_rfl)
          have f35 : s 35 = jv z1 := hnew 3 35 (by kernel_rfl)
          have f38 : s 38 = .slice (some ⟨b1, off1, none⟩) n1 c1 := hnew 6 38 (by kernel_rfl)
          have f39 : s 39 = .slice (fromS 2 (some ⟨b1, off1, none⟩) c1 1) (n1 - 1) (c1 - 1) := hnew 7 39 (by kernel_rfl)
          have hG : Grown2 w4 vk (M ++ P ++ [z1]) (s 0) w5 := hnew 8 0 (by kernel_rfl)
          change Exit.inBlock _ _ .normal ⟨#[s 0, s 1, s 2, s 3, s 4, s 5, s 6, s 7, s 8, s 9, s 10, s 11, s 12, s 13, s 14, s 15, s 16, s 17, s 18, s 19, s 20, s 21, s 22, s 23, s 24, s 25, s 26, s 27, s 28, s 29, s 30, s 31, s 32, s 33, s 34, s 35, s 36, s 37, s 38, s 39, s 40, s 41, s 42, s 43, s 44], _⟩ _
          simp only [f2, f3, f4, f5, f6, f40, f41, f42, f43, f44, f1, f32, f33, f34, f35, f38, f39]
          clear hold hnew
          generalize s 7 = u7
          generalize s 8 = u8
          generalize s 9 = u9
          generalize s 10 = u10
          generalize s 11 = u11
          generalize s 12 = u12
          generalize s 13 = u13
          generalize s 14 = u14
          generalize s 15 = u15
          generalize s 16 = u16
          generalize s 17 = u17
          generalize s 18 = u18
          generalize s 19 = u19
          generalize s 20 = u20
          generalize s 21 = u21
          generalize s 22 = u22
          generalize s 23 = u23
          generalize s 24 = u24
          generalize s 25 = u25
          generalize s 26 = u26
          generalize s 27 = u27
          generalize s 28 = u28
          generalize s 29 = u29
          generalize s 30 = u30
          generalize s 31 = u31
          generalize s 0 = vn at *
          generalize s 36 = u36_
          generalize s 37 = u37_
          go_wp2_with fail
          go_roundw
          case rel => exact ⟨P ++ [z1], _, _, _, _, _, _, _, _, rfl, rfl, Lib.hid (HM4.next hB (by rw [← List.append_assoc]; exact hG) (HM4.a.from_ (k := 1) (by omega)) HM4.b (by rw [HM4.eq, mergeF_nless HX1.out HX2.out HLS.out, List.append_assoc]; rfl) (by simp; omega))⟩
          case measure => simp [slen]; omega
        · go_wp2_with fail
          refine wp_region_slots hmix [fun v _ => v = .slice (some ⟨b2, off2, none⟩) m1 c2, fun v _ => v = .pointer (some ⟨b2, off2, none⟩), fun v _ => v = .pointer (some ⟨b2, off2, none⟩), fun v _ => v = .slice z2.1.1 z2.1.2.1 z2.1.2.2, fun v _ => v = .slice (some ⟨b1, off1, none⟩) n1 c1, fun v _ => v = .pointer (some ⟨b1, off1, none⟩), fun v _ => v = .pointer (some ⟨b1, off1, none⟩), fun v _ => v = .slice z1.1.1 z1.1.2.1 z1.1.2.2, fun v _ => v = .bool true]
            45 rfl (by kernel_rfl) ⟨mono_eq _, mono_eq _, mono_eq _, mono_eq _, mono_eq _, mono_eq _, mono_eq _, mono_eq _, mono_eq _, trivial⟩ ?_ ?_
          · refine ops_cons 0 ?_ (ops_cons 1 ?_ (ops_cons 2 ?_ (ops_cons 3 ?_ (ops_cons 4 ?_ (ops_cons 5 ?_ (ops_cons 6 ?_ (ops_cons 7 ?_ (ops_cons 8 ?_ (ops_nil 9)))))))))
            · refine op_value fun a w c => ⟨(wanted_plain rfl), _, run_move _ rfl w, (c.was 2 (by kernel_rfl) rfl)⟩
            · refine op_value fun a w c => ⟨(wanted_plain rfl), .pointer (some ⟨b2, off2, none⟩), ?_, rfl⟩
              have e15 : a.eval (.tmp 15) = .slice (some ⟨b2, off2, none⟩) m1 c2 := (c.new 0 15 (by kernel_rfl) (by kernel_rfl))
              have kc0 : a.eval (.const (.int .i64 0)) = .int .i64 0 := rfl
              generalize a.eval = ρ at e15 kc0 ⊢
              simp [execOp, e15, kc0, go_sem, j2]
            · refine op_value fun a w c => ⟨(wanted_plain rfl), .pointer (some ⟨b2, off2, none⟩), ?_, rfl⟩
              have e16 : a.eval (.tmp 16) = .pointer (some ⟨b2, off2, none⟩) := (c.new 1 16 (by kernel_rfl) (by kernel_rfl))
              generalize a.eval = ρ at e16 ⊢
              simp [execOp, e16, go_sem]
            · refine op_value fun a w c => ⟨(wanted_plain rfl), .slice z2.1.1 z2.1.2.1 z2.1.2.2, ?_, rfl⟩
              have e17 : a.eval (.tmp 17) = .pointer (some ⟨b2, off2, none⟩) := (c.new 2 17 (by kernel_rfl) (by kernel_rfl))
              have hc := (c.ev.cell (p := ⟨b2, off2, none⟩) hb2).trans d0r
              generalize a.eval = ρ at e17 ⊢
              simp [execOp, e17, hc, go_sem]
            · refine op_value fun a w c => ⟨(wanted_plain rfl), _, run_move _ rfl w, (c.was 1 (by kernel_rfl) rfl)⟩
            · refine op_value fun a w c => ⟨(wanted_plain rfl), .pointer (some ⟨b1, off1, none⟩), ?_, rfl⟩
              have e19 : a.eval (.tmp 19) = .slice (some ⟨b1, off1, none⟩) n1 c1 := (c.new 4 19 (by kernel_rfl) (by kernel_rfl))
              have kc0 : a.eval (.const (.int .i64 0)) = .int .i64 0 := rfl
              generalize a.eval = ρ at e19 kc0 ⊢
              simp [execOp, e19, kc0, go_sem, j1]
            · refine op_value fun a w c => ⟨(wanted_plain rfl), .pointer (some ⟨b1, off1, none⟩), ?_, rfl⟩
              have e20 : a.eval (.tmp 20) = .pointer (some ⟨b1, off1, none⟩) := (c.new 5 20 (by kernel_rfl) (by kernel_rfl))
              generalize a.eval = ρ at e20 ⊢
              simp [execOp, e20, go_sem]
            · refine op_value fun a w c => ⟨(wanted_plain rfl), .slice z1.1.1 z1.1.2.1 z1.1.2.2, ?_, rfl⟩
              have e21 : a.eval (.tmp 21) = .pointer (some ⟨b1, off1, none⟩) := (c.new 6 21 (by kernel_rfl) (by kernel_rfl))
              have hc := (c.ev.cell (p := ⟨b1, off1, none⟩) hb1).trans c0r
              generalize a.eval = ρ at e21 ⊢
              simp [execOp, e21, hc, go_sem]
            · refine op_call fun a w c => ⟨(wanted_plain rfl), 76, #[.slice z2.1.1 z2.1.2.1 z2.1.2.2, .slice z1.1.1 z1.1.2.1 z1.1.2.2], ?_, ?_⟩
              · rw [run_call 76 _ _ rfl (by kernel_rfl)]
                have e18 : a.eval (.tmp 18) = .slice z2.1.1 z2.1.2.1 z2.1.2.2 := (c.new 3 18 (by kernel_rfl) (by kernel_rfl))
                have e22 : a.eval (.tmp 22) = .slice z1.1.1 z1.1.2.1 z1.1.2.2 := (c.new 7 22 (by kernel_rfl) (by kernel_rfl))
                simp [e18, e22]
              · refine (HL.out w c.ev).mono ?_
                rintro e w2 ⟨rfl, hE⟩
                exact ⟨_, rfl, hE, rfl⟩
          intro s w4 hEr hold hnew
          have f0 : s 0 = vk := hold 0 (by kernel_rfl)
          have f1 : s 1 = .slice (some ⟨b1, off1, none⟩) n1 c1 := hold 1 (by kernel_rfl)
          have f2 : s 2 = .slice (some ⟨b2, off2, none⟩) m1 c2 := hold 2 (by kernel_rfl)
          have f3 : s 3 = undef := hold 3 (by kernel_rfl)
          have f4 : s 4 = undef := hold 4 (by kernel_rfl)
          have f5 : s 5 = undef := hold 5 (by kernel_rfl)
          have f6 : s 6 = .slice none 0 0 := hold 6 (by kernel_rfl)
          have f40 : s 40 = undef := hold 40 (by kernel_rfl)
          have f41 : s 41 = undef := hold 41 (by kernel_rfl)
          have f42 : s 42 = undef := hold 42 (by kernel_rfl)
          have f43 : s 43 = undef := hold 43 (by kernel_rfl)
          have f44 : s 44 = undef := hold 44 (by kernel_rfl)
          have f15 : s 15 = .slice (some ⟨b2, off2, none⟩) m1 c2 := hnew 0 15 (by kernel_rfl)
          have f16 : s 16 = .pointer (some ⟨b2, off2, none⟩) := hnew 1 16 (by kernel_rfl)
          have f17 : s 17 = .pointer (some ⟨b2, off2, none⟩) := hnew 2 17 (by kernel_rfl)
          have f18 : s 18 = .slice z2.1.1 z2.1.2.1 z2.1.2.2 := hnew 3 18 (by kernel_rfl)
          have f19 : s 19 = .slice (some ⟨b1, off1, none⟩) n1 c1 := hnew 4 19 (by kernel_rfl)
          have f20 : s 20 = .pointer (some ⟨b1, off1, none⟩) := hnew 5 20 (by kernel_rfl)
          have f21 : s 21 = .pointer (some ⟨b1, off1, none⟩) := hnew 6 21 (by kernel_rfl)
          have f22 : s 22 = .slice z1.1.1 z1.1.2.1 z1.1.2.2 := hnew 7 22 (by kernel_rfl)
          have f23 : s 23 = .bool true := hnew 8 23 (by kernel_rfl)
          change Exit.then _ _ .normal ⟨#[s 0, s 1, s 2, s 3, s 4, s 5, s 6, s 7, s 8, s 9, s 10, s 11, s 12, s 13, s 14, s 15, s 16, s 17, s 18, s 19, s 20, s 21, s 22, s 23, s 24, s 25, s 26, s 27, s 28, s 29, s 30, s 31, s 32, s 33, s 34, s 35, s 36, s 37, s 38, s 39, s 40, s 41, s 42, s 43, s 44], _⟩ _
          simp only [f0, f1, f2, f3, f4, f5, f6, f40, f41, f42, f43, f44, f15, f16, f17, f18, f19, f20, f21, f22, f23]
          clear hold hnew
          generalize s 7 = u7
          generalize s 8 = u8
          generalize s 9 = u9
          generalize s 10 = u10
          generalize s 11 = u11
          generalize s 12 = u12
          generalize s 13 = u13
          generalize s 14 = u14
          generalize s 24 = u24
          generalize s 25 = u25
          generalize s 26 = u26
          generalize s 27 = u27
          generalize s 28 = u28
          generalize s 29 = u29
          generalize s 30 = u30
          generalize s 31 = u31
          generalize s 32 = u32
          generalize s 33 = u33
          generalize s 34 = u34
          generalize s 35 = u35
          generalize s 36 = u36
          generalize s 37 = u37
          generalize s 38 = u38
          generalize s 39 = u39
          go_wp2_with fail
          replace c0 := (hEr.cell (p := ⟨b1, off1, none⟩) hb1).trans c0
          replace c1_ := (hEr.cell (p := ⟨b1, off1 + 1, none⟩) hb1).trans c1_
          replace d0 := (hEr.cell (p := ⟨b2, off2, none⟩) hb2).trans d0
          replace d1 := (hEr.cell (p := ⟨b2, off2 + 1, none⟩) hb2).trans d1
          have HRZ_z1 := Lib.hid (HV1.out.ev hEr)
          have HRZ_z2 := Lib.hid (HV2.out.ev hEr)
          replace HNB_z1 := Lib.hid (HNB_z1.out w4 hEr)
          replace HNB_z2 := Lib.hid (HNB_z2.out w4 hEr)
          clear c0r d0r
          have HM4 := HM.out.ev hEr
          have hZk := HM4.own
          have HKS : Hid (∀ k ∈ foot vk, k < w4.heap.size) := Lib.hid (HM.out.foot_lt hEr.size)
          replace hb1 : b1 < w4.heap.size := Nat.lt_of_lt_of_le hb1 hEr.size
          replace hb2 : b2 < w4.heap.size := Nat.lt_of_lt_of_le hb2 hEr.size
          refine wp_region_slotsB hmix (foot vk) 5 [fun v _ => v = vk, fun v _ => v = .slice (some ⟨b2, off2, none⟩) m1 c2, fun v _ => v = .pointer (some ⟨b2, off2, none⟩), fun v _ => v = jv z2, OneItem w4.heap.size z2, Grown2 w4 vk (M ++ P ++ [z2]), fun v _ => v = .slice (some ⟨b2, off2, none⟩) m1 c2, fun v _ => v = .slice (fromS 2 (some ⟨b2, off2, none⟩) c2 1) (m1 - 1) (c2 - 1), Grown2 w4 vk (M ++ P ++ [z2]), fun v _ => v = .slice (fromS 2 (some ⟨b2, off2, none⟩) c2 1) (m1 - 1) (c2 - 1)]
            45 rfl (by kernel_rfl) ⟨mono_eq _, mono_eq _, mono_eq _, mono_eq _, OneItem.mono, Grown2.mono, mono_eq _, mono_eq _, Grown2.mono, mono_eq _, trivial⟩ ⟨.inr (.inr (monoB_eq _ _)), .inr (.inr (monoB_eq _ _)), .inr (.inr (monoB_eq _ _)), .inr (.inr (monoB_eq _ _)), .inr (.inr (OneItem.monoB (fun k hk => HKS.out k hk))), .inl rfl, .inr (.inr (monoB_eq _ _)), .inr (.inr (monoB_eq _ _)), .inr (.inl (by kernel_rfl)), .inr (.inr (monoB_eq _ _)), trivial⟩ ?_ ?_
          · refine ops_cons 0 ?_ (ops_cons 1 ?_ (ops_cons 2 ?_ (ops_cons 3 ?_ (ops_cons 4 ?_ (ops_cons 5 ?_ (ops_cons 6 ?_ (ops_cons 7 ?_ (ops_cons 8 ?_ (ops_cons 9 ?_ (ops_nil 10))))))))))
            · refine opb_value fun a w c => ⟨(wanted_plain rfl), _, run_move _ rfl w, (c.was 0 (by kernel_rfl) rfl)⟩
            · refine opb_value fun a w c => ⟨(wanted_plain rfl), _, run_move _ rfl w, (c.was 2 (by kernel_rfl) rfl)⟩
            · refine opb_value fun a w c => ⟨(wanted_plain rfl), .pointer (some ⟨b2, off2, none⟩), ?_, rfl⟩
              have e25 : a.eval (.tmp 25) = .slice (some ⟨b2, off2, none⟩) m1 c2 := (c.new 1 25 (by kernel_rfl) (by kernel_rfl))
              have kc0 : a.eval (.const (.int .i64 0)) = .int .i64 0 := rfl
              generalize a.eval = ρ at e25 kc0 ⊢
              simp [execOp, e25, kc0, go_sem, j2]
            · refine opb_value fun a w c => ⟨(wanted_plain rfl), _, run_load_item rfl ((c.new 2 26 (by kernel_rfl) (by kernel_rfl)) : a.eval (.tmp 26) = .pointer (some ⟨b2, off2, none⟩)) (by rw [World.cell?_of_block (w := w4) (c.but.block _ hb2 HNB.out.2)]; exact d0) (by rw [World.cell?_of_block (w := w4) (c.but.block _ hb2 HNB.out.2)]; exact d1), rfl⟩
            · refine opb_makes fun a w c => ⟨(wanted_plain rfl), _, _, run_build_item rfl ((c.new 3 27 (by kernel_rfl) (by kernel_rfl)) : a.eval (.tmp 27) = jv z2) w, Turns.of_ev (Ev.alloc _ _), OneItem.new c.but.size⟩
            · refine opb_makes fun a w c => ?_
              have e_ : a.eval (.tmp 24) = vk := (c.new 0 24 (by kernel_rfl) (by kernel_rfl))
              have hO_ : OneItem w4.heap.size z2 (a.eval (.tmp 28)) w := (c.new 4 28 (by kernel_rfl) (by kernel_rfl))
              obtain ⟨v_, w_, hr_, hG_, hT_⟩ := hO_.append 40 40 Tryz.underlying40 Tryz.infoItem (c.evm rfl) hZk HRZ_z2.out HNB_z2.out HSZ.out
              refine ⟨(wanted_plain rfl), v_, w_, ?_, Turns.self hT_, hG_⟩
              unfold execOp
              simp only [resolve, invoke, builtin, Sem.run_bind, Sem.run_pure, Result.andThen_ok, List.map_toArray, List.map_cons, List.map_nil, e_, hr_]
            · refine opb_value fun a w c => ⟨(wanted_plain rfl), _, run_move _ rfl w, (c.was 2 (by kernel_rfl) rfl)⟩
            · refine opb_value fun a w c => ⟨(wanted_plain rfl), _, run_from_items 1 rfl ((c.new 6 30 (by kernel_rfl) (by kernel_rfl)) : a.eval (.tmp 30) = .slice (some ⟨b2, off2, none⟩) m1 c2) rfl (by omega) (by omega) w, rfl⟩
            · refine opb_value fun a w c => ⟨(wanted_plain rfl), _, run_assign _ rfl w, ((c.new 5 29 (by kernel_rfl) (by kernel_rfl)))⟩
            · refine opb_value fun a w c => ⟨(wanted_plain rfl), _, run_assign _ rfl w, (c.new 7 31 (by kernel_rfl) (by kernel_rfl))⟩
          intro s w5 hB hold hnew
          have f1 : s 1 = .slice (some ⟨b1, off1, none⟩) n1 c1 := hold 1 (by kernel_rfl)
          have f3 : s 3 = undef := hold 3 (by kernel_rfl)
          have f4 : s 4 = undef := hold 4 (by kernel_rfl)
          have f5 : s 5 = undef := hold 5 (by kernel_rfl)
          have f6 : s 6 = .slice none 0 0 := hold 6 (by kernel_rfl)
          have f40 : s 40 = undef := hold 40 (by kernel_rfl)
          have f41 : s 41 = undef := hold 41 (by kernel_rfl)
          have f42 : s 42 = undef := hold 42 (by kernel_rfl)
          have f43 : s 43 = undef := hold 43 (by kernel_rfl)
          have f44 : s 44 = undef := hold 44 (by kernel_rfl)
          have f2 : s 2 = .slice (fromS 2 (some ⟨b2, off2, none⟩) c2 1) (m1 - 1) (c2 - 1) := hnew 9 2 (by kernel_rfl)
          have f24 : s 24 = vk := hnew 0 24 (by kernel_rfl)
          have f25 : s 25 = .slice (some ⟨b2, off2, none⟩) m1 c2 := hnew 1 25 (by kernel_rfl)
          have f26 : s 26 = .pointer (some ⟨b2, off2, none⟩) := hnew 2 26 (by kernel_rfl)
          have f27 : s 27 = jv z2 := hnew 3 27 (by kernel_rfl)
          have f30 : s 30 = .slice (some ⟨b2, off2, none⟩) m1 c2 := hnew 6 30 (by kernel_rfl)
          have f31 : s 31 = .slice (fromS 2 (some ⟨b2, off2, none⟩) c2 1) (m1 - 1) (c2 - 1) := hnew 7 31 (by kernel_rfl)
          have hG : Grown2 w4 vk (M ++ P ++ [z2]) (s 0) w5 := hnew 8 0 (by kernel_rfl)
          change Exit.inBlock _ _ .normal ⟨#[s 0, s 1, s 2, s 3, s 4, s 5, s 6, s 7, s 8, s 9, s 10, s 11, s 12, s 13, s 14, s 15, s 16, s 17, s 18, s 19, s 20, s 21, s 22, s 23, s 24, s 25, s 26, s 27, s 28, s 29, s 30, s 31, s 32, s 33, s 34, s 35, s 36, s 37, s 38, s 39, s 40, s 41, s 42, s 43, s 44], _⟩ _
          simp only [f1, f3, f4, f5, f6, f40, f41, f42, f43, f44, f2, f24, f25, f26, f27, f30, f31]
          clear hold hnew
          generalize s 7 = u7
          generalize s 8 = u8
          generalize s 9 = u9
          generalize s 10 = u10
          generalize s 11 = u11
          generalize s 12 = u12
          generalize s 13 = u13
          generalize s 14 = u14
          generalize s 15 = u15
          generalize s 16 = u16
          generalize s 17 = u17
          generalize s 18 = u18
          generalize s 19 = u19
          generalize s 20 = u20
          generalize s 21 = u21
          generalize s 22 = u22
          generalize s 23 = u23
          generalize s 32 = u32
          generalize s 33 = u33
          generalize s 34 = u34
          generalize s 35 = u35
          generalize s 36 = u36
          generalize s 37 = u37
          generalize s 38 = u38
          generalize s 39 = u39
          generalize s 0 = vn at *
          generalize s 28 = u28_
          generalize s 29 = u29_
          go_wp2_with fail
          go_roundw
          case rel => exact ⟨P ++ [z2], _, _, _, _, _, _, _, _, rfl, rfl, Lib.hid (HM4.next hB (by rw [← List.append_assoc]; exact hG) HM4.a (HM4.b.from_ (k := 1) (by omega)) (by rw [HM4.eq, mergeF_less HX1.out HX2.out HLS.out, List.append_assoc]; rfl) (by simp; omega))⟩
          case measure => simp [slen]; omega
      · have i2 : ¬ (0 : Int) < (m1 : Int) := by omega
        have HXY : Hid (mergeF keyJ X1 Y1 = X1 ++ Y1) := Lib.hid (by
          rw [List.eq_nil_of_length_eq_zero (by rw [HM.out.b.len]; omega : Y1.length = 0), mergeF_nil', List.append_nil])
        have hJa := HM.out.a.js
        have hRa := HM.out.rowsA
        have hZ0 := HM.out.own
        have HB1 : Hid (((M ++ P).length + X1.length) * 40 ≤ 140737488355328) := Lib.hid (by rw [List.length_append, HM.out.a.len]; omega)
        have HB2 : Hid (((M ++ (P ++ X1)).length + Y1.length) * 40 ≤ 140737488355328) := Lib.hid (by rw [List.length_append, List.length_append, HM.out.a.len, HM.out.b.len]; omega)
        go_wp2_with (first | (at_builtin; refine wpList_append_items rfl 40 (.tmp 40) (.tmp 41) rfl Tryz.underlying40 Tryz.infoItem vk (M ++ P) rfl hZ0 A1 n1 c1 X1 rfl hJa hRa HB1.out ?_; intro v1 w1 hz1 hb1 hs1; have HM1 := HM.out.putA HXY.out ⟨(by rw [← List.append_assoc]; exact hz1), hs1⟩ hb1) | (at_builtin; refine wpList_append_items rfl 40 (.tmp 42) (.tmp 43) rfl Tryz.underlying40 Tryz.infoItem v1 (M ++ (P ++ X1)) rfl HM1.own A2 m1 c2 Y1 rfl HM1.b.js HM1.rowsB HB2.out ?_; intro v2 w2 hz2 hb2 hs2; have HM2 := HM1.putB ⟨(by rw [← List.append_assoc]; exact hz2), hs2⟩ hb2))
        go_ret
        have he := HM2.eq
        rw [mergeF_nil, List.append_nil] at he
        exact ⟨v2, rfl, by rw [he]; exact HM2.own, HM2.high, HM2.but, HM2.spr⟩
    · have i1 : ¬ (0 : Int) < (n1 : Int) := by omega
      have HXY : Hid (mergeF keyJ X1 Y1 = X1 ++ Y1) := Lib.hid (by
        rw [List.eq_nil_of_length_eq_zero (by rw [HM.out.a.len]; omega : X1.length = 0), mergeF_nil, List.nil_append])
      have hJa := HM.out.a.js
      have hRa := HM.out.rowsA
      have hZ0 := HM.out.own
      have HB1 : Hid (((M ++ P).length + X1.length) * 40 ≤ 140737488355328) := Lib.hid (by rw [List.length_append, HM.out.a.len]; omega)
      have HB2 : Hid (((M ++ (P ++ X1)).length + Y1.length) * 40 ≤ 140737488355328) := Lib.hid (by rw [List.length_append, List.length_append, HM.out.a.len, HM.out.b.len]; omega)
      go_wp2_with (first | (at_builtin; refine wpList_append_items rfl 40 (.tmp 40) (.tmp 41) rfl Tryz.underlying40 Tryz.infoItem vk (M ++ P) rfl hZ0 A1 n1 c1 X1 rfl hJa hRa HB1.out ?_; intro v1 w1 hz1 hb1 hs1; have HM1 := HM.out.putA HXY.out ⟨(by rw [← List.append_assoc]; exact hz1), hs1⟩ hb1) | (at_builtin; refine wpList_append_items rfl 40 (.tmp 42) (.tmp 43) rfl Tryz.underlying40 Tryz.infoItem v1 (M ++ (P ++ X1)) rfl HM1.own A2 m1 c2 Y1 rfl HM1.b.js HM1.rowsB HB2.out ?_; intro v2 w2 hz2 hb2 hs2; have HM2 := HM1.putB ⟨(by rw [← List.append_assoc]; exact hz2), hs2⟩ hb2))
      go_ret
      have he := HM2.eq
      rw [mergeF_nil, List.append_nil] at he
      exact ⟨v2, rfl, by rw [he]; exact HM2.own, HM2.high, HM2.but, HM2.spr⟩
end Go.Proofs.YthpiobkghfdkkaaGreat

namespace Go.Proofs.YthpiobkghfdkkaaGreat
open Go.RowKit
set_option linter.unusedVariables false

theorem run_cut_items {ρ : Operand → Value} {o : Oper} {x : Operand} {A : Option Addr} {n cap : Nat} (lo hi k : Nat) {c c' : Operand} (ho : o.op = .slice 40 x (some c) (some c') none) (h : ρ x = .slice A n cap) (hc : ρ c = .int .i64 (lo : Int)) (hc' : ρ c' = .int .i64 (hi : Int)) (hk : hi = lo + k) (h0 : 0 < lo) (hle : hi ≤ cap) (w : World) :
    (execOp ρ o).run Tryz.prog w = .ok (.value (.slice (fromS 2 A cap lo) k (cap - lo))) w := by
  have h1 : (lo : Int) ≤ (hi : Int) := by omega
  have h2 : (0 : Int) ≤ (lo : Int) := by omega
  have h3 : (hi : Int) ≤ (cap : Int) := by omega
  have h4 : hi - lo = k := by omega
  have ht : Tryz.prog.underlying 40 = some (.slice (Tryz.prog.elem 40)) := by kernel_rfl
  have hs : (sizeOf (Tryz.prog.elem 40)).run Tryz.prog w = .ok 2 w := by kernel_rfl
  unfold execOp
  rw [ho]
  simp [h, hc, hc', run_sliceAt_slice w 40 _ _ _ _ ht, run_slice_lh w 40 A n cap ht .i64 .i64 (lo : Int) (hi : Int) h2 h1 h3, hs, Result.andThen, sliced, fromS, h4]
/-- What merge leaves. -/
def Merged (b0 : Nat) (w4 : World) (vk : Value) (Z : List J) (v : Value) (w : World) : Prop := Zrow w v Z ∧ ∀ g, v.ownBlock = some g → b0 ≤ g
theorem Merged.mono {b0 : Nat} {w4 : World} {vk : Value} {Z : List J} : Mono (Merged b0 w4 vk Z) := fun v w w' hE ⟨h, hh⟩ => ⟨h.ev hE, hh⟩

/-- How far the pairs are merged: M is merged, Z1 is left. -/
structure Pairing (w : World) (Z : List J) (K N : Nat) (v : Value) (M : List J) (A1 : Option Addr) (n1 c1 : Nat) (Z1 : List J) (wr : World) : Prop where
  own : Zrow wr v M
  high : ∀ g, v.ownBlock = some g → w.heap.size ≤ g
  rest : Zs w.heap.size wr A1 n1 c1 Z1
  alike : Alike keyJ (M ++ Z1) Z
  right : AllRight keyJ Z
  pieces : ∃ p q, Pieces keyJ p M ∧ Pieces keyJ q Z1 ∧ (2 * p + q ≤ K ∨ (q = 0 ∧ 2 * p ≤ K + 1))
  ev : Ev w wr
  size : M.length + n1 = N
theorem Pairing.okR {w : World} {Z : List J} {K N : Nat} {v : Value} {M : List J} {A1 : Option Addr} {n1 c1 : Nat} {Z1 : List J} {wr : World} (h : Pairing w Z K N v M A1 n1 c1 Z1 wr) : AllRight keyJ Z1 := fun z hz => h.right z (h.alike.mem (List.mem_append_right _ hz))
theorem split3 {α : Type} (l : List α) (k1 k2 : Nat) : l = l.take k1 ++ ((l.drop k1).take k2 ++ l.drop (k1 + k2)) := by
  rw [← List.drop_drop, List.take_append_drop, List.take_append_drop]
theorem Pairing.next {w : World} {Z : List J} {K N : Nat} {v : Value} {M : List J} {A1 : Option Addr} {n1 c1 : Nat} {Z1 : List J} {wr : World} (h : Pairing w Z K N v M A1 n1 c1 Z1 wr) (h0 : 0 < n1) {k1 k2 : Nat} (hk1 : IsRun keyJ Z1 k1) (hk2 : IsRun keyJ (Z1.drop k1) k2)
    {vn : Value} {w4 w5 : World} (hE4 : Ev wr w4) (hB : But (foot v) w4 w5) (hG : Merged w.heap.size w4 v (M ++ mergeF keyJ (Z1.take k1) ((Z1.drop k1).take k2)) vn w5) :
    Pairing w Z K N vn (M ++ mergeF keyJ (Z1.take k1) ((Z1.drop k1).take k2)) (fromS 2 A1 c1 (k1 + k2)) (n1 - (k1 + k2)) (c1 - (k1 + k2)) (Z1.drop (k1 + k2)) w5 := by
  have hr1 := h.okR
  have hlen := h.rest.len
  have hle1 := hk1.le
  have hle2 : k1 + k2 ≤ Z1.length := by have := hk2.le; rw [List.length_drop] at this; omega
  have hB' : Below w.heap.size w4 w5 := hB.below (Nat.le_trans h.ev.size hE4.size) fun k hk => h.high k (mem_foot.1 hk)
  have hE : Ev w w5 := Below.trans (h.ev.trans hE4) hB'
  refine ⟨hG.1, hG.2, ((h.rest.ev hE4).below hB').from_ (by omega), ?_, h.right, ?_, hE, ?_⟩
  · refine Alike.trans (fun r => ?_) h.alike
    conv => rhs; rw [split3 Z1 k1 k2]
    rw [atRow_append, atRow_append, atRow_append, mergeF_atRow _ _ (hr1.take k1) ((hr1.drop k1).take k2) (hk1.rises hr1), atRow_append, atRow_append, List.append_assoc, List.append_assoc]
  · obtain ⟨p, q, hp, hq, hpq⟩ := h.pieces
    have hms := mergeF_rises _ _ (hr1.take k1) ((hr1.drop k1).take k2) (hk1.rises hr1) (hk2.rises (hr1.drop k1))
    have hp' := hp.snoc hms
    cases q with
    | zero => have := hq.none; rw [this] at hlen; simp at hlen; omega
    | succ q =>
      have hq1 := hq.run hk1
      cases q with
      | zero =>
        refine ⟨p + 1, 0, hp', ?_, .inr ⟨rfl, by omega⟩⟩
        rw [← List.drop_drop, hq1.none, List.drop_nil]
        exact Pieces.nil_
      | succ q =>
        refine ⟨p + 1, q, hp', ?_, .inl (by omega)⟩
        rw [← List.drop_drop]
        exact hq1.run hk2
  · have := h.size
    rw [List.length_append, mergeF_length, List.length_take, List.length_take, List.length_drop]
    omega

set_option maxRecDepth 100000 in
set_option maxHeartbeats 8000000 in
theorem zset_mergePairs {A : Option Addr} {n cap : Nat} {Z : List J} (w : World) (h : Zs w.heap.size w A n cap Z) (hsz : n ≤ 1000000000000) (hr : AllRight keyJ Z) (K : Nat) (hp : Pieces keyJ K Z) :
    Calls Tryz.prog 101 #[.slice A n cap] w fun e w' => ∃ A' cap' Z', e = .returned (.slice A' n cap') ∧ Zs w'.heap.size w' A' n cap' Z' ∧ Alike keyJ Z' Z ∧ Pieces keyJ ((K + 1) / 2) Z' ∧ Ev w w' := by
  have hmix : Tryz.prog.follows .mixedOrders = true := by kernel_rfl
  obtain ⟨i0, hi0, hz0, hs0, hb0⟩ := info_parts Tryz.infoItem
  have hmk : ∀ w1 : World, Zrow w1 (.slice (some ⟨w.heap.size, 0, none⟩) 0 n) [] → w.grownBy w1 none → Pairing w Z K n (.slice (some ⟨w.heap.size, 0, none⟩) 0 n) [] A n cap Z w1 := fun w1 hz hg => by
    have hE : Ev w w1 := (But.grown (K := []) hg (fun g e => by cases e)).ev (fun k hk => by cases hk)
    exact ⟨hz, by rintro g ⟨⟩; exact Nat.le_refl _, h.ev hE, Alike.refl _, hr, ⟨0, K, Pieces.nil_, hp, .inl (by omega)⟩, hE, by simp⟩
  have HMK := Lib.hid hmk
  clear hmk h hr hp
  obtain ⟨b0, hbb⟩ : ∃ b0, b0 = w.heap.size := ⟨_, rfl⟩
  go_enter Tryz.func101, Tryz.ntmps101
  go_wp2_with (first | (at_make; refine wpList_make_own _ rfl (.const (.int .i64 0)) (.tmp 7) 40 rfl 0 62 i0 _ 2 Tryz.underlying40 hi0 hz0 hs0 .i64 .i64 (n : Int) n rfl rfl rfl (by rw [hb0]; omega) (by unfold maxLen; omega) (Nat.zero_le _) ?_; intro w1 hz1 hg1; have HST := Lib.hid (HMK.out w1 ⟨hz1, fun _ hz => by cases hz⟩ hg1)))
  go_loopw [0, 3] (fun zv vk wr => ∃ M A1 n1 c1 Z1, zv = .slice A1 n1 c1 ∧ Hid (Pairing w Z K n vk M A1 n1 c1 Z1 wr)) (fun zv _ _ => slen zv)
  case atStart => exact ⟨[], A, n, cap, Z, rfl, HST⟩
  case round =>
    obtain ⟨M, A1, n1, c1, Z1, rfl, HM⟩ := hrel
    obtain ⟨vk, hvk⟩ : ∃ vk, vk = u3 := ⟨_, rfl⟩
    rw [← hvk] at HM ⊢
    clear hvk
    have hn1 := HM.out.rest.le
    have hc1 := HM.out.rest.max
    have hN := HM.out.size
    by_cases k0 : 0 < n1
    · have i1 : (0 : Int) < (n1 : Int) := by omega
      have HR1 := Lib.hid (zset_run wr HM.out.rest)
      go_upto_region 4 with (first | ((with_reducible refine HR1.out.mono ?_); rintro e w2 ⟨⟨k1, rfl, hk1⟩, hE2⟩))
      have HK1 := Lib.hid hk1
      have j1 : k1 ≤ n1 := by rw [← HM.out.rest.len]; exact hk1.le
      have j2 : 1 ≤ k1 := hk1.pos (by rw [HM.out.rest.len]; exact k0)
      clear hk1
      have i2 : (0 : Int) ≤ (k1 : Int) := by omega
      have i3 : (k1 : Int) ≤ (n1 : Int) := by omega
      have hR2 := zset_run w2 ((HM.out.rest.ev hE2).from_ j1)
      obtain ⟨A2, hA2⟩ : ∃ A2, fromS 2 A1 c1 k1 = A2 := ⟨_, rfl⟩
      rw [hA2] at hR2
      have HA2 := Lib.hid hA2
      have HR2 := Lib.hid hR2
      clear hR2
      unfold fromS at hA2
      go_upto_region 5 with (first | ((with_reducible refine HR2.out.mono ?_); rintro e w4 ⟨⟨k2, rfl, hk2⟩, hE3⟩; obtain ⟨kb, hkb⟩ : ∃ kb, kb = k1 + k2 := ⟨_, rfl⟩; have j3 : k1 + k2 ≤ n1 := by {have := hk2.le; rw [List.length_drop, HM.out.rest.len] at this; omega}; have hadd : IntKind.i64.wrap ((k1 : Int) + (k2 : Int)) = (kb : Int) := by {rw [show (k1 : Int) + (k2 : Int) = (kb : Int) by omega]; exact IntWalk.i64_in _ (by omega)}))
      clear hadd
      have HK2 := Lib.hid hk2
      clear hk2
      rw [show (k1 : Int) + (k2 : Int) = (kb : Int) by omega]
      have hEr := hE2.trans hE3
      have hr4 := HM.out.rest.ev hEr
      rw [← hbb] at hr4
      have HMG := Lib.hid (fun w5 (h5 : Ev w4 w5) => zset_merge (b0 := b0) w5 ((HM.out.own.ev hEr).ev h5) (fun g hg => hbb ▸ HM.out.high g hg) ((hr4.ev h5).to k1 j1) (((hr4.ev h5).from_ j1).to k2 (by omega)) (by omega))
      have HKB := Lib.hid hkb
      have HKC : Hid (0 < k1) := Lib.hid j2
      have j4 : kb ≤ n1 := by omega
      have j5 : kb ≤ c1 := by omega
      have j6 : 1 ≤ kb := by omega
      clear hr4 hkb j3
      refine wp_region_slotsB hmix (foot vk) 8 [fun v _ => v = vk, fun v _ => v = .slice A1 n1 c1, fun v _ => v = .int .i64 (k1 : Int), fun v _ => v = .slice A1 k1 c1, fun v _ => v = .slice A1 n1 c1, fun v _ => v = .int .i64 (k1 : Int), fun v _ => v = .int .i64 (kb : Int), fun v _ => v = .slice (fromS 2 A1 c1 k1) k2 (c1 - k1), Merged b0 w4 vk (M ++ mergeF keyJ (Z1.take k1) ((Z1.drop k1).take k2)), Merged b0 w4 vk (M ++ mergeF keyJ (Z1.take k1) ((Z1.drop k1).take k2))]
        33 rfl (by kernel_rfl) ⟨mono_eq _, mono_eq _, mono_eq _, mono_eq _, mono_eq _, mono_eq _, mono_eq _, mono_eq _, Merged.mono, Merged.mono, trivial⟩ ⟨.inr (.inr (monoB_eq _ _)), .inr (.inr (monoB_eq _ _)), .inr (.inr (monoB_eq _ _)), .inr (.inr (monoB_eq _ _)), .inr (.inr (monoB_eq _ _)), .inr (.inr (monoB_eq _ _)), .inr (.inr (monoB_eq _ _)), .inr (.inr (monoB_eq _ _)), .inl rfl, .inr (.inl (by kernel_rfl)), trivial⟩ ?_ ?_
      · refine ops_cons 0 ?_ (ops_cons 1 ?_ (ops_cons 2 ?_ (ops_cons 3 ?_ (ops_cons 4 ?_ (ops_cons 5 ?_ (ops_cons 6 ?_ (ops_cons 7 ?_ (ops_cons 8 ?_ (ops_cons 9 ?_ (ops_nil 10))))))))))
        · refine opb_value fun a w c => ⟨(wanted_plain rfl), _, run_move _ rfl w, (c.was 3 (by kernel_rfl) rfl)⟩
        · refine opb_value fun a w c => ⟨(wanted_plain rfl), _, run_move _ rfl w, (c.was 0 (by kernel_rfl) rfl)⟩
        · refine opb_value fun a w c => ⟨(wanted_plain rfl), _, run_move _ rfl w, (c.was 4 (by kernel_rfl) rfl)⟩
        · refine opb_value fun a w c => ⟨(wanted_plain rfl), _, run_to_items k1 rfl ((c.new 1 21 (by kernel_rfl) (by kernel_rfl)) : a.eval (.tmp 21) = .slice A1 n1 c1) (c.new 2 22 (by kernel_rfl) (by kernel_rfl)) (by omega) w, rfl⟩
        · refine opb_value fun a w c => ⟨(wanted_plain rfl), _, run_move _ rfl w, (c.was 0 (by kernel_rfl) rfl)⟩
        · refine opb_value fun a w c => ⟨(wanted_plain rfl), _, run_move _ rfl w, (c.was 4 (by kernel_rfl) rfl)⟩
        · refine opb_value fun a w c => ⟨(wanted_plain rfl), _, run_move _ rfl w, (c.was 5 (by kernel_rfl) rfl)⟩
        · refine opb_value fun a w c => ⟨(wanted_plain rfl), _, run_cut_items k1 kb k2 rfl ((c.new 4 24 (by kernel_rfl) (by kernel_rfl)) : a.eval (.tmp 24) = .slice A1 n1 c1) (c.new 5 25 (by kernel_rfl) (by kernel_rfl)) (c.new 6 26 (by kernel_rfl) (by kernel_rfl)) HKB.out HKC.out (by omega) w, rfl⟩
        · refine opb_call fun a w c => ⟨(wanted_plain rfl), 118, #[vk, .slice A1 k1 c1, .slice (fromS 2 A1 c1 k1) k2 (c1 - k1)], ?_, ?_⟩
          · rw [run_call 118 _ _ rfl (by kernel_rfl)]
            have e_0 : a.eval (.tmp 20) = vk := (c.new 0 20 (by kernel_rfl) (by kernel_rfl))
            have e_1 : a.eval (.tmp 23) = .slice A1 k1 c1 := (c.new 3 23 (by kernel_rfl) (by kernel_rfl))
            have e_2 : a.eval (.tmp 27) = .slice (fromS 2 A1 c1 k1) k2 (c1 - k1) := (c.new 7 27 (by kernel_rfl) (by kernel_rfl))
            simp [e_0, e_1, e_2]
          · refine (HMG.out w (c.evm rfl)).mono ?_
            rintro e w' ⟨v', rfl, hz, hh, hbt, hsp⟩
            exact ⟨_, rfl, Turns.self hbt, hz, hh⟩
        · refine opb_value fun a w c => ⟨(wanted_plain rfl), _, run_assign _ rfl w, ((c.new 8 28 (by kernel_rfl) (by kernel_rfl)))⟩
      intro s w5 hB hold hnew
      have f0 : s 0 = .slice A1 n1 c1 := hold 0 (by kernel_rfl)
      have f1 : s 1 = undef := hold 1 (by kernel_rfl)
      have f2 : s 2 = .slice none 0 0 := hold 2 (by kernel_rfl)
      have f4 : s 4 = .int .i64 (k1 : Int) := hold 4 (by kernel_rfl)
      have f5 : s 5 = .int .i64 (kb : Int) := hold 5 (by kernel_rfl)
      have f6 : s 6 = .slice A n cap := hold 6 (by kernel_rfl)
      have f7 : s 7 = .int .i64 (n : Int) := hold 7 (by kernel_rfl)
      have f8 : s 8 = .slice (some ⟨w.heap.size, 0, none⟩) 0 n := hold 8 (by kernel_rfl)
      have f32 : s 32 = undef := hold 32 (by kernel_rfl)
      have f20 : s 20 = vk := hnew 0 20 (by kernel_rfl)
      have f21 : s 21 = .slice A1 n1 c1 := hnew 1 21 (by kernel_rfl)
      have f22 : s 22 = .int .i64 (k1 : Int) := hnew 2 22 (by kernel_rfl)
      have f23 : s 23 = .slice A1 k1 c1 := hnew 3 23 (by kernel_rfl)
      have f24 : s 24 = .slice A1 n1 c1 := hnew 4 24 (by kernel_rfl)
      have f25 : s 25 = .int .i64 (k1 : Int) := hnew 5 25 (by kernel_rfl)
      have f26 : s 26 = .int .i64 (kb : Int) := hnew 6 26 (by kernel_rfl)
      have f27 : s 27 = .slice (fromS 2 A1 c1 k1) k2 (c1 - k1) := hnew 7 27 (by kernel_rfl)
      have hG : Merged b0 w4 vk (M ++ mergeF keyJ (Z1.take k1) ((Z1.drop k1).take k2)) (s 3) w5 := hnew 9 3 (by kernel_rfl)
      change Exit.then _ _ .normal ⟨#[s 0, s 1, s 2, s 3, s 4, s 5, s 6, s 7, s 8, s 9, s 10, s 11, s 12, s 13, s 14, s 15, s 16, s 17, s 18, s 19, s 20, s 21, s 22, s 23, s 24, s 25, s 26, s 27, s 28, s 29, s 30, s 31, s 32], _⟩ _
      simp only [f0, f1, f2, f4, f5, f6, f7, f8, f32, f20, f21, f22, f23, f24, f25, f26, f27]
      clear hold hnew
      generalize s 9 = u9
      generalize s 10 = u10
      generalize s 11 = u11
      generalize s 12 = u12
      generalize s 13 = u13
      generalize s 14 = u14
      generalize s 15 = u15
      generalize s 16 = u16
      generalize s 17 = u17
      generalize s 18 = u18
      generalize s 19 = u19
      generalize s 29 = u29
      generalize s 30 = u30
      generalize s 31 = u31
      generalize s 3 = vn at *
      generalize s 28 = u28_
      obtain ⟨A3, hA3⟩ : ∃ A3, fromS 2 A1 c1 kb = A3 := ⟨_, rfl⟩
      have HA3 := Lib.hid hA3
      unfold fromS at hA3
      have i4 : (0 : Int) ≤ (kb : Int) := by omega
      have i5 : (kb : Int) ≤ (n1 : Int) := by omega
      go_wp2
      go_roundw
      case rel =>
        have hnx := HM.out.next k0 HK1.out HK2.out hEr hB (hbb ▸ hG)
        rw [← HKB.out, HA3.out] at hnx
        exact ⟨_, A3, _, _, _, rfl, Lib.hid hnx⟩
      case measure => simp [slen]; omega
    · have i1 : ¬ (0 : Int) < (n1 : Int) := by omega
      go_wp2
      go_ret
      have hZ1 : Z1 = [] := List.eq_nil_of_length_eq_zero (by rw [HM.out.rest.len]; omega)
      have hal := HM.out.alike
      rw [hZ1, List.append_nil] at hal
      obtain ⟨p, q, hp, hq, hpq⟩ := HM.out.pieces
      obtain ⟨A', cap', hv, hzs, _⟩ := HM.out.own.form
      have hMn : M.length = n := by omega
      rw [hMn] at hv hzs
      exact ⟨A', cap', congrArg Ending.returned hv, M, hzs, hal, hp.mono (by omega), HM.out.ev⟩

/-- What ordered has come to. -/
structure Ordering_ (w : World) (Z : List J) (n : Nat) (g : Nat) (A1 : Option Addr) (c1 : Nat) (Z1 : List J) (wr : World) : Prop where
  rest : Zs wr.heap.size wr A1 n c1 Z1
  alike : Alike keyJ Z1 Z
  right : AllRight keyJ Z
  pieces : Pieces keyJ g Z1
  ev : Ev w wr

set_option maxRecDepth 100000 in
set_option maxHeartbeats 4000000 in
theorem zset_ordered {A : Option Addr} {n cap : Nat} {Z : List J} (w : World) (h : Zs w.heap.size w A n cap Z) (hsz : n ≤ 1000000000000) (hr : AllRight keyJ Z) :
    Calls Tryz.prog 69 #[.slice A n cap] w fun e w' => ∃ A' cap' Z', e = .returned (.slice A' n cap') ∧ Zs w'.heap.size w' A' n cap' Z' ∧ Alike keyJ Z' Z ∧ Rises keyJ Z' ∧ Ev w w' := by
  have HST : Hid (Ordering_ w Z n n A cap Z w) := Lib.hid ⟨h, Alike.refl _, hr, by have := Pieces.singles (key := keyJ) Z; rwa [h.len] at this, Ev.refl _⟩
  clear h hr
  go_enter Tryz.func69, Tryz.ntmps69
  go_wp2
  go_loopg [0] n (fun g zv wr => ∃ A1 c1 Z1, zv = .slice A1 n c1 ∧ Hid (Ordering_ w Z n g A1 c1 Z1 wr))
  case atStart => exact ⟨A, cap, Z, rfl, HST⟩
  case round =>
    obtain ⟨A1, c1, Z1, rfl, HO⟩ := hrel
    have HR := Lib.hid (zset_run wr HO.out.rest)
    have HMP := Lib.hid (fun w1 (h1 : Ev wr w1) => zset_mergePairs w1 ((HO.out.rest.ev h1).wide h1.size (Nat.le_refl _)) hsz (HO.out.alike.symm.right HO.out.right) gk HO.out.pieces)
    go_upto_if 7 with (first | ((with_reducible refine HR.out.mono ?_); rintro e w2 ⟨⟨k, rfl, hk⟩, hE2⟩))
    have hkn : k ≤ n := by rw [← HO.out.rest.len]; exact hk.le
    by_cases hlt : k < n
    · have i1 : (k : Int) < (n : Int) := by omega
      have HG : Hid (2 ≤ gk) := Lib.hid (by
        by_cases h2 : 2 ≤ gk
        · exact h2
        · have := hk.whole (HO.out.pieces.mono (q := 1) (by omega)).one
          rw [HO.out.rest.len] at this; omega)
      clear hk
      go_wp2_with (first | ((with_reducible refine (HMP.out _ hE2).mono ?_); rintro e w3 ⟨A3, c3, Z3, rfl, hz3, ha3, hp3, hE3⟩))
      go_roundg ((gk + 1) / 2)
      case measure => have := HG.out; omega
      case rel => exact ⟨A3, c3, Z3, rfl, Lib.hid ⟨hz3, ha3.trans HO.out.alike, HO.out.right, hp3, (HO.out.ev.trans hE2).trans hE3⟩⟩
    · have i1 : ¬ (k : Int) < (n : Int) := by omega
      have hrs : Rises keyJ Z1 := by
        have := hk.rises (HO.out.alike.symm.right HO.out.right)
        rwa [List.take_of_length_le (by rw [HO.out.rest.len]; omega)] at this
      have HRS := Lib.hid hrs
      clear hk hrs
      go_wp2
      go_ret
      have hz2 := (HO.out.rest.ev hE2).wide hE2.size (Nat.le_refl _)
      exact ⟨A1, c1, rfl, Z1, hz2, HO.out.alike, HRS.out, HO.out.ev.trans hE2⟩
end Go.Proofs.YthpiobkghfdkkaaGreat

namespace Go.Proofs.YthpiobkghfdkkaaGreat
open Go.RowKit
set_option linter.unusedVariables false

/-- How many items at the beginning have the row of the first. -/
def repF : List I → Nat
  | [] => 0
  | x :: l => 1 + (l.takeWhile fun y => decide (y.1 = x.1)).length
/-- A list whose rows rise, each row's tallies added up; those of Net 0 left out. -/
def groupF : Nat → List I → Option (List I)
  | 0, _ => some []
  | _ + 1, [] => some []
  | f + 1, x :: l => match sumN 0 ((x :: l).take (repF (x :: l))) with
    | none => none
    | some m => (groupF f ((x :: l).drop (repF (x :: l)))).map fun s => if m = 0 then s else (x.1, redP m, redQ m) :: s
def makeF (l : List I) : Option (List I) := groupF l.length (sortF keyI l)

theorem repF_pos (x : I) (l : List I) : 1 ≤ repF (x :: l) := by
  show 1 ≤ 1 + (l.takeWhile _).length
  omega
theorem groupF_fuel : ∀ (f f' : Nat) (l : List I), l.length ≤ f → l.length ≤ f' → groupF f l = groupF f' l
  | 0, 0, _, _, _ => rfl
  | 0, f' + 1, l, h, _ => by
    have := List.eq_nil_of_length_eq_zero (Nat.le_zero.1 h)
    subst this; rfl
  | f + 1, 0, l, _, h => by
    have := List.eq_nil_of_length_eq_zero (Nat.le_zero.1 h)
    subst this; rfl
  | f + 1, f' + 1, [], _, _ => rfl
  | f + 1, f' + 1, x :: l, h, h' => by
    have hp := repF_pos x l
    have h1 : ((x :: l).drop (repF (x :: l))).length ≤ f := by rw [List.length_drop]; simp only [List.length_cons] at h ⊢; omega
    have h2 : ((x :: l).drop (repF (x :: l))).length ≤ f' := by rw [List.length_drop]; simp only [List.length_cons] at h' ⊢; omega
    simp only [groupF]
    rw [groupF_fuel f f' _ h1 h2]
theorem groupF_step (x : I) (l : List I) : groupF (x :: l).length (x :: l) = match sumN 0 ((x :: l).take (repF (x :: l))) with
    | none => none
    | some m => (groupF ((x :: l).drop (repF (x :: l))).length ((x :: l).drop (repF (x :: l)))).map fun s => if m = 0 then s else (x.1, redP m, redQ m) :: s := by
  have hp := repF_pos x l
  rw [List.length_cons]
  simp only [groupF]
  rw [groupF_fuel l.length ((x :: l).drop (repF (x :: l))).length _ (by rw [List.length_drop, List.length_cons]; omega) (Nat.le_refl _)]

theorem takeWhile_length {α : Type} {p : α → Bool} : ∀ (l : List α) (k : Nat), k ≤ l.length → (∀ i x, i < k → l[i]? = some x → p x = true) → (∀ x, l[k]? = some x → p x = false) → (l.takeWhile p).length = k
  | [], k, hk, _, _ => by simp at hk; simp [hk]
  | x :: l, 0, _, _, h => by
    have := h x rfl
    simp [this]
  | x :: l, k + 1, hk, h1, h2 => by
    have h0 := h1 0 x (by omega) rfl
    rw [List.takeWhile_cons_of_pos h0, List.length_cons, takeWhile_length l k (by simpa using hk) (fun i y hi hy => h1 (i + 1) y (by omega) (by simpa using hy)) (fun y hy => h2 y (by simpa using hy))]

theorem itemsOf_get {Z : List J} {i : Nat} {x : I} (h : (itemsOf Z)[i]? = some x) : ∃ z, Z[i]? = some z ∧ z.2 = x := by
  unfold itemsOf at h
  rw [List.getElem?_map, Option.map_eq_some_iff] at h
  exact h
theorem itemsOf_length (Z : List J) : (itemsOf Z).length = Z.length := by simp [itemsOf]
theorem itemsOf_take (Z : List J) (k : Nat) : itemsOf (Z.take k) = (itemsOf Z).take k := by simp [itemsOf, List.map_take]
theorem itemsOf_drop (Z : List J) (k : Nat) : itemsOf (Z.drop k) = (itemsOf Z).drop k := by simp [itemsOf, List.map_drop]
theorem sameR_right {a b : List V} (h : rightR a = true) : sameR a b = decide (a = b) := by unfold sameR; rw [h]; rfl
theorem Reps.eq {Z : List J} {k : Nat} (h : Reps Z k) (hr : AllRight keyJ Z) : k = repF (itemsOf Z) := by
  obtain ⟨h1, h2, h3, h4⟩ := h
  cases Z with
  | nil => simp at h1; omega
  | cons z Z =>
    have e : itemsOf (z :: Z) = z.2 :: itemsOf Z := rfl
    rw [e]
    show k = 1 + ((itemsOf Z).takeWhile fun y => decide (y.1 = z.2.1)).length
    rw [takeWhile_length (itemsOf Z) (k - 1) (by rw [itemsOf_length]; simp at h1; omega)]
    · omega
    · intro i x hi hx
      obtain ⟨y, hy, rfl⟩ := itemsOf_get hx
      have := h3 (i + 1) y z (by omega) (by simpa using hy) rfl
      rw [sameR_right (hr y (List.mem_cons_of_mem _ (List.mem_of_getElem? hy)))] at this
      exact this
    · intro x hx
      obtain ⟨y, hy, rfl⟩ := itemsOf_get hx
      have := h4 y z (by rw [show k = k - 1 + 1 by omega]; simpa using hy) rfl
      rw [sameR_right (hr y (List.mem_cons_of_mem _ (List.mem_of_getElem? hy)))] at this
      exact this
theorem wrong_not {Z : List J} (h : Z.any wrongJ = false) : AllRight keyJ Z ∧ AllParts Z := by
  rw [List.any_eq_false] at h
  have key : ∀ z ∈ Z, (rightR z.2.1 && (partB z.2.2.1 && partB z.2.2.2)) = true := fun z hz => by
    have h1 := h z hz
    unfold wrongJ at h1
    cases hc : (rightR z.2.1 && (partB z.2.2.1 && partB z.2.2.2))
    · rw [hc] at h1; exact absurd rfl h1
    · rfl
  refine ⟨fun z hz => ?_, fun z hz => ?_⟩
  all_goals
    have h1 := key z hz
    rw [Bool.and_eq_true, Bool.and_eq_true] at h1
  · exact h1.1
  · exact ⟨partB_iff.1 h1.2.1, partB_iff.1 h1.2.2⟩
theorem sorted_items {Z Z' : List J} (hr : AllRight keyJ Z) (ha : Alike keyJ Z' Z) (hs : Rises keyJ Z') : itemsOf Z' = sortF keyI (itemsOf Z) := by
  refine sortF_only (fun x hx => ?_) (Rises.map (fun z : J => z.2) (key' := keyI) hs) (Alike.map (fun z : J => z.2) (key' := keyI) ha)
  obtain ⟨z, hz, rfl⟩ := List.mem_map.1 hx
  exact hr z hz
end Go.Proofs.YthpiobkghfdkkaaGreat

namespace Go.Proofs.YthpiobkghfdkkaaGreat
open Go.RowKit
set_option linter.unusedVariables false

/-- How far Make has come: S is made, Z1 is left. -/
structure Making (w : World) (b1 : Nat) (L : List I) (N : Nat) (v : Value) (S : List J) (A1 : Option Addr) (n1 c1 : Nat) (Z1 : List J) (wr : World) : Prop where
  own : Zrow wr v S
  rest : Zs b1 wr A1 n1 c1 Z1
  right : AllRight keyJ Z1
  parts : AllParts Z1
  eq : groupF L.length L = (groupF (itemsOf Z1).length (itemsOf Z1)).map fun s => itemsOf S ++ s
  ev : Ev w wr
  high : ∀ g, v.ownBlock = some g → b1 ≤ g
  base : w.heap.size ≤ b1
  size : S.length + n1 ≤ N
theorem Making.cons {Z1 : List J} (h : 0 < Z1.length) : ∃ x l, itemsOf Z1 = x :: l := by
  cases Z1 with
  | nil => simp at h
  | cons z Z => exact ⟨_, _, rfl⟩
/-- The end of a round. -/
theorem Making.drop {w : World} {b1 : Nat} {L : List I} {N : Nat} {v : Value} {S : List J} {A1 : Option Addr} {n1 c1 : Nat} {Z1 : List J} {wr w' : World} (h : Making w b1 L N v S A1 n1 c1 Z1 wr) (hB : Below b1 wr w') {k : Nat} (hk : k ≤ n1) {Sn : List J} {vn : Value} (hown : Zrow w' vn Sn) (hhigh : ∀ g, vn.ownBlock = some g → b1 ≤ g)
    (heq : groupF L.length L = (groupF (itemsOf (Z1.drop k)).length (itemsOf (Z1.drop k))).map fun s => itemsOf Sn ++ s) (hsz : Sn.length + (n1 - k) ≤ N) :
    Making w b1 L N vn Sn (fromS 2 A1 c1 k) (n1 - k) (c1 - k) (Z1.drop k) w' :=
  ⟨hown, (h.rest.below hB).from_ hk, h.right.drop k, fun z hz => h.parts z (List.mem_of_mem_drop hz), heq, Below.trans h.ev (Below.mono hB h.base), hhigh, h.base, hsz⟩
theorem Making.up {w : World} {b1 : Nat} {L : List I} {N : Nat} {v : Value} {S : List J} {A1 : Option Addr} {n1 c1 : Nat} {Z1 : List J} {wr w' : World} (h : Making w b1 L N v S A1 n1 c1 Z1 wr) (hE : Ev wr w') : Below b1 wr w' := Below.mono hE h.rest.base
/-- The item that is put lies where the own slice does not. -/
theorem Making.item {w : World} {b1 : Nat} {L : List I} {N : Nat} {v : Value} {S : List J} {A1 : Option Addr} {n1 c1 : Nat} {Z1 : List J} {wr w4 w5 : World} (h : Making w b1 L N v S A1 n1 c1 Z1 wr) (hE4 : Ev wr w4) (hE5 : Ev w4 w5) {A' : Option Addr} {n' cap' : Nat} {r : List V} (hV : Vs w5 A' n' cap' r) (hN : New w4 w5 A') (p q : Int) (o : Obj) :
    ∀ x ∈ [(((A', n', cap'), (r, p, q)) : J)], Vs (w5.alloc o) x.1.1 x.1.2.1 x.1.2.2 x.2.1 ∧ ∀ ad, x.1.1 = some ad → ad.block < (w5.alloc o).heap.size ∧ v.ownBlock ≠ some ad.block := fun x hx => by
  rw [List.mem_singleton.1 hx]
  refine ⟨hV.ev (Ev.alloc _ _), fun ad e => ⟨Nat.lt_of_lt_of_le (hN ad e).2 (Ev.alloc w5 o).size, fun e' => ?_⟩⟩
  have h1 := h.own.lt e'
  have h2 := (hN ad e).1
  have h3 := hE4.size
  omega
/-- A round that keeps its row. -/
theorem Making.put {w : World} {b1 : Nat} {L : List I} {N : Nat} {v : Value} {S : List J} {A1 : Option Addr} {n1 c1 : Nat} {Z1 : List J} {wr w5 w6 : World} (h : Making w b1 L N v S A1 n1 c1 Z1 wr) (hE : Ev wr w5) (hB : But (foot v) w5 w6) {vn : Value} (hs : Sprung w5 v vn) : Below b1 wr w6 ∧ ∀ g, vn.ownBlock = some g → b1 ≤ g := by
  have h5 : b1 ≤ w5.heap.size := Nat.le_trans h.rest.base hE.size
  refine ⟨Below.trans (h.up hE) (hB.below h5 fun k hk => h.high k (mem_foot.1 hk)), fun g hg => ?_⟩
  rcases hs g hg with h1 | h1
  · exact h.high g h1
  · exact Nat.le_trans h5 h1
theorem Making.fail {w : World} {b1 : Nat} {L : List I} {N : Nat} {v : Value} {S : List J} {A1 : Option Addr} {n1 c1 : Nat} {Z1 : List J} {wr : World} (h : Making w b1 L N v S A1 n1 c1 Z1 wr) (h0 : 0 < n1) {k : Nat} (hk : Reps Z1 k) (hs : sumN 0 (itemsOf (Z1.take k)) = none) : groupF L.length L = none := by
  obtain ⟨x, l, e⟩ := Making.cons (Z1 := Z1) (by rw [h.rest.len]; exact h0)
  have hkr := hk.eq h.right
  rw [h.eq, e, groupF_step]
  rw [itemsOf_take, e] at hs
  rw [e] at hkr
  rw [← hkr, hs]
  rfl
theorem Making.step {w : World} {b1 : Nat} {L : List I} {N : Nat} {v : Value} {S : List J} {A1 : Option Addr} {n1 c1 : Nat} {Z1 : List J} {wr : World} (h : Making w b1 L N v S A1 n1 c1 Z1 wr) (h0 : 0 < n1) {k : Nat} (hk : Reps Z1 k) {m : Int} (hs : sumN 0 (itemsOf (Z1.take k)) = some m) {z : J} (hz : Z1[0]? = some z) (Sn : List J)
    (hSn : itemsOf Sn = itemsOf S ++ (if m = 0 then [] else [(z.2.1, redP m, redQ m)])) : groupF L.length L = (groupF (itemsOf (Z1.drop k)).length (itemsOf (Z1.drop k))).map fun s => itemsOf Sn ++ s := by
  obtain ⟨x, l, e⟩ := Making.cons (Z1 := Z1) (by rw [h.rest.len]; exact h0)
  have hx : x = z.2 := by
    cases Z1 with
    | nil => simp at hz
    | cons z' Z =>
      simp at hz
      subst hz
      exact (List.cons.inj e).1.symm
  have hkr := hk.eq h.right
  rw [h.eq, e, groupF_step]
  rw [itemsOf_take, e] at hs
  rw [e] at hkr
  rw [← hkr, hs, itemsOf_drop, e]
  simp only
  rw [Option.map_map, hSn]
  congr 1
  funext s
  simp only [Function.comp]
  by_cases hm : m = 0
  · rw [if_pos hm, if_pos hm, List.append_nil]
  · rw [if_neg hm, if_neg hm, hx, List.append_assoc]
    rfl
theorem order_tv {m : Int} (h : okNet m = true) : (m = 0 ∧ FloatKind.f64.format.order (fl (redP m)) 0 = some .eq ∧ FloatKind.f64.format.order (fl (redQ m)) 0 = some .eq) ∨ (m ≠ 0 ∧ FloatKind.f64.format.order (fl (redP m)) 0 = some .gt) ∨ (m ≠ 0 ∧ FloatKind.f64.format.order (fl (redP m)) 0 = some .eq ∧ FloatKind.f64.format.order (fl (redQ m)) 0 = some .gt) := by
  have o1 := order_zero (redP_part h)
  have o2 := order_zero (redQ_part h)
  rcases Int.lt_trichotomy m 0 with h1 | h1 | h1
  · rw [if_pos (by unfold redP; omega)] at o1
    rw [if_neg (by unfold redQ; omega)] at o2
    exact .inr (.inr ⟨by omega, o1, o2⟩)
  · rw [if_pos (by unfold redP; omega)] at o1
    rw [if_pos (by unfold redQ; omega)] at o2
    exact .inl ⟨h1, o1, o2⟩
  · rw [if_neg (by unfold redP; omega)] at o1
    exact .inr (.inl ⟨by omega, o1⟩)

end Go.Proofs.YthpiobkghfdkkaaGreat

namespace Go.Proofs.YthpiobkghfdkkaaGreat
open Go.RowKit
set_option linter.unusedVariables false

/-- A tally that a set keeps: known of all whose parts are whole numbers from 0 to 2^50. -/
def keptP (p q : Int) : Bool := partB p && partB q && keptB p q
def KeptAs (p q : Int) : Prop := ∀ w : World, Calls Tryz.prog 75 #[.complex .f64 (fl p) (fl q)] w fun e w' => e = .returned (.bool (keptP p q)) ∧ w = w'
theorem KeptAs.part {p q : Int} (hp : Part p) (hq : Part q) : KeptAs p q := fun w => by
  unfold keptP
  rw [partB_iff.2 hp, partB_iff.2 hq]
  exact zset_isKept p q hp hq w
def okItem (x : I) : Bool := rightR x.1 && keptP x.2.1 x.2.2
/-- A valid set, behind a row. -/
def setFrom : Option (List V) → List I → Bool
  | _, [] => true
  | none, x :: l => okItem x && setFrom (some x.1) l
  | some r, x :: l => okItem x && (lessR r x.1 && setFrom (some x.1) l)
def setB (l : List I) : Bool := setFrom none l
def KeptAll (Z : List J) : Prop := ∀ z ∈ Z, KeptAs z.2.2.1 z.2.2.2
/-- The row ahead of place k. -/
def rowAhead (Z : List J) (k : Nat) : Option (List V) := if k = 0 then none else (Z[k - 1]?).map keyJ
theorem setFrom_at {Z : List J} {k : Nat} {z : J} (hz : Z[k]? = some z) {prev : Option (List V)} : setFrom prev (itemsOf (Z.drop k)) = (okItem z.2 && ((match prev with | none => true | some r => lessR r z.2.1) && setFrom (some z.2.1) (itemsOf (Z.drop (k + 1))))) := by
  rw [drop_of_get hz]
  cases prev with
  | none => simp [itemsOf, setFrom]
  | some r => simp [itemsOf, setFrom]
theorem setFrom_end {Z : List J} {k : Nat} (hk : Z.length ≤ k) (prev : Option (List V)) : setFrom prev (itemsOf (Z.drop k)) = true := by
  rw [List.drop_of_length_le hk]
  cases prev <;> rfl

set_option maxRecDepth 100000 in
set_option maxHeartbeats 4000000 in
theorem zset_right {b0 : Nat} {A : Option Addr} {n cap : Nat} {Z : List J} (w : World) (h : Zs b0 w A n cap Z) (hk : KeptAll Z) :
    Calls Tryz.prog 38 #[.slice A n cap] w fun e w' => e = .returned (.bool (setB (itemsOf Z))) ∧ Ev w w' := by
  have hn := h.le
  have hm := h.max
  have HN := Lib.hid h.len
  have HK := Lib.hid hk
  have hmix : Tryz.prog.follows .mixedOrders = true := by kernel_rfl
  have hst := store_complex
  clear hk
  obtain ⟨sb, hsb⟩ : ∃ sb, setB (itemsOf Z) = sb := ⟨_, rfl⟩
  rw [hsb]
  have HSB := Lib.hid hsb
  clear hsb
  go_enter Tryz.func38, Tryz.ntmps38
  go_wp2
  go_loopw [7] (fun i wr => ∃ k : Nat, k ≤ n ∧ i = .int .i64 (k : Int) ∧ Hid (setFrom (rowAhead Z k) (itemsOf (Z.drop k)) = sb) ∧ Ev w wr) (fun i _ => n - (intOf i).toNat)
  case atStart => exact ⟨0, Nat.zero_le _, rfl, HSB, Ev.refl _⟩
  case round =>
    obtain ⟨k, hk, rfl, HT, hE⟩ := hrel
    by_cases hlt : k < n
    · obtain ⟨b, off, z, rfl, hb, hb0, hx, c0, c1, hv⟩ := (h.ev hE).at hlt
      have hka := HK.out z (List.mem_of_getElem? hx)
      have HX := Lib.hid hx
      have hstep := HT.out
      rw [setFrom_at hx] at hstep
      obtain ⟨⟨A1, n1, cap1⟩, r1, p1, q1⟩ := z
      simp only at hstep hv hka
      unfold jrow at c0
      unfold jtal at c1
      simp only at c0 c1
      obtain ⟨w0, hw0⟩ : ∃ w0, w0 = wr.alloc (.cells #[.slice A1 n1 cap1, .complex .f64 (fl p1) (fl q1)] 62) := ⟨_, rfl⟩
      have hE0 : Ev wr w0 := hw0 ▸ Ev.alloc _ _
      have B0 : Itembox wr.heap.size ((A1, n1, cap1), r1, p1, q1) w0 := hw0 ▸ Itembox.new ((A1, n1, cap1), r1, p1, q1) wr
      have d0 : w0.cell? ⟨wr.heap.size, 0, none⟩ = some (.slice A1 n1 cap1) := B0.c0
      have HR := Lib.hid (row_right w0 (hv.ev hE0))
      have HKA : Hid (∀ w : World, Calls Tryz.prog 75 #[.complex .f64 (fl p1) (fl q1)] w fun e w' => e = .returned (.bool (keptP p1 q1)) ∧ w = w') := Lib.hid hka
      have HV := Lib.hid hv
      clear hka hx hv
      unfold okItem at hstep
      simp only at hstep
      generalize rightR r1 = rr at *
      generalize keptP p1 q1 = kk at *
      have i1 : (0 : Int) ≤ (k : Int) := by omega
      have i2 : (k : Int) < (n : Int) := by omega
      cases rr
      · have HF : Hid (false = sb) := Lib.hid (by simpa using hstep)
        clear hstep
        go_wp2_with (first | (rw [← hw0]; (with_reducible refine HR.out.mono ?_); rintro e w1 ⟨rfl, hE1⟩))
        go_ret
        exact ⟨by rw [← HF.out]; rfl, (hE.trans (Ev.alloc _ _)).trans (hw0 ▸ hE1)⟩
      · cases kk
        · have HF : Hid (false = sb) := Lib.hid (by simpa using hstep)
          clear hstep
          go_wp2_with (first | (rw [← hw0]; (with_reducible refine HR.out.mono ?_); rintro e w1 ⟨rfl, hE1⟩; have d1 : w1.cell? ⟨wr.heap.size, 1, none⟩ = some (.complex .f64 (fl p1) (fl q1)) := (B0.ev hE1).c1) | ((with_reducible refine (HKA.out _).mono ?_); rintro e w2 ⟨rfl, rfl⟩))
          go_ret
          exact ⟨by rw [← HF.out]; rfl, (hE.trans hE0).trans hE1⟩
        · by_cases k0 : k = 0
          · have HS : Hid (setFrom (rowAhead Z (k + 1)) (itemsOf (Z.drop (k + 1))) = sb) := Lib.hid (by
              have e : rowAhead Z (k + 1) = some r1 := by unfold rowAhead; rw [if_neg (by omega), Nat.add_sub_cancel, HX.out]; rfl
              have e2 : rowAhead Z k = none := by unfold rowAhead; rw [if_pos k0]
              rw [e2] at hstep
              rw [e]
              simpa using hstep)
            have i6 : decide (0 < k) = false := decide_eq_false (by omega)
            clear hstep k0
            go_wp2_with (first | (rw [← hw0]; (with_reducible refine HR.out.mono ?_); rintro e w1 ⟨rfl, hE1⟩; have d1 : w1.cell? ⟨wr.heap.size, 1, none⟩ = some (.complex .f64 (fl p1) (fl q1)) := (B0.ev hE1).c1) | ((with_reducible refine (HKA.out _).mono ?_); rintro e w2 ⟨rfl, rfl⟩))
            go_quiet (fail)
            go_wp2
            go_roundw
            case rel => exact ⟨k + 1, by omega, by go_num, HS, ((hE.trans hE0).trans hE1).trans (Ev.drewN _ _)⟩
            case measure => simp [intOf]; omega
          · have i6 : 0 < k := by omega
            obtain ⟨j, hj⟩ : ∃ j, k = j + 1 := ⟨k - 1, by omega⟩
            obtain ⟨b', off', z0, hA', _, _, hx0, c0p, _, hv0⟩ := (h.ev hE).at (i := j) (by omega)
            obtain ⟨rfl, rfl⟩ : b = b' ∧ off = off' := by injection hA' with e; injection e with e1 e2; exact ⟨e1, e2⟩
            have e2 : rowAhead Z k = some z0.2.1 := by unfold rowAhead; rw [if_neg (by omega), show k - 1 = j by omega, hx0]; rfl
            rw [e2] at hstep
            have HL := fun w1 (h1 : Ev wr w1) => row_less w1 (hv0.ev h1) (HV.out.ev h1)
            obtain ⟨⟨A0, n0, cap0⟩, r0, p0, q0⟩ := z0
            simp only at hstep HL
            unfold jrow at c0p
            simp only at c0p
            have i3 : IntKind.i64.wrap ((k : Int) - 1) = (j : Int) := by rw [show (k : Int) - 1 = (j : Int) by omega]; exact IntWalk.i64_in _ (by omega)
            have i4 : (0 : Int) ≤ (j : Int) := by omega
            have i5 : (j : Int) < (n : Int) := by omega
            clear hx0 hv0 hA' e2
            generalize lessR r0 r1 = ls at *
            cases ls
            · have HF : Hid (false = sb) := Lib.hid (by simpa using hstep)
              clear hstep hj
              go_wp2_with (first | (rw [← hw0]; (with_reducible refine HR.out.mono ?_); rintro e w1 ⟨rfl, hE1⟩; have d1 : w1.cell? ⟨wr.heap.size, 1, none⟩ = some (.complex .f64 (fl p1) (fl q1)) := (B0.ev hE1).c1) | ((with_reducible refine (HKA.out _).mono ?_); rintro e w2 ⟨rfl, rfl⟩))
              have cg : w1.cell? ⟨wr.heap.size, 0, none⟩ = some (.slice A1 n1 cap1) := (B0.ev hE1).c0
              have hg1 := (B0.ev hE1).lt
              have hE01 := hE0.trans hE1
              replace c0p := (hE01.cell (p := ⟨b, off + j * 2, none⟩) hb).trans c0p
              have hb1 : b < w1.heap.size := Nat.lt_of_lt_of_le hb hE01.size
              replace HL := Lib.hid (fun w3 (h3 : Ev w1 w3) => HL w3 (hE01.trans h3))
              obtain ⟨g, hg⟩ : ∃ g, g = wr.heap.size := ⟨_, rfl⟩
              rw [← hg] at cg hg1 ⊢
              clear d0 d1 hg
              refine wp_region_slots hmix [fun v _ => v = .int .i64 (k : Int), fun v _ => v = .bool true, fun v _ => v = .bool true, fun v _ => v = .slice (some ⟨b, off, none⟩) n cap, fun v _ => v = .int .i64 (k : Int), fun v _ => v = .int .i64 (j : Int), fun v _ => v = .pointer (some ⟨b, off + j * 2, none⟩), fun v _ => v = .pointer (some ⟨b, off + j * 2, none⟩), fun v _ => v = .slice A0 n0 cap0, fun v _ => v = .pointer (some ⟨g, 0, none⟩), fun v _ => v = .slice A1 n1 cap1, fun v _ => v = .bool false, fun v _ => v = .bool true, fun v _ => v = .bool true]
                37 rfl (by kernel_rfl) ⟨mono_eq _, mono_eq _, mono_eq _, mono_eq _, mono_eq _, mono_eq _, mono_eq _, mono_eq _, mono_eq _, mono_eq _, mono_eq _, mono_eq _, mono_eq _, mono_eq _, trivial⟩ ?_ ?_
              · refine ops_cons 0 ?_ (ops_cons 1 ?_ (ops_cons 2 ?_ (ops_cons 3 ?_ (ops_cons 4 ?_ (ops_cons 5 ?_ (ops_cons 6 ?_ (ops_cons 7 ?_ (ops_cons 8 ?_ (ops_cons 9 ?_ (ops_cons 10 ?_ (ops_cons 11 ?_ (ops_cons 12 ?_ (ops_cons 13 ?_ (ops_nil 14))))))))))))))
                · refine op_value fun a w c => ⟨(wanted_plain rfl), _, run_move _ rfl w, (c.was 3 (by kernel_rfl) rfl)⟩
                · refine op_value fun a w c => ⟨(wanted_plain rfl), .bool true, ?_, rfl⟩
                  have e22 : a.eval (.tmp 22) = .int .i64 (k : Int) := (c.new 0 22 (by kernel_rfl) (by kernel_rfl))
                  have kc0 : a.eval (.const (.int .i64 0)) = .int .i64 0 := rfl
                  generalize a.eval = ρ at e22 kc0 ⊢
                  simp [execOp, e22, kc0, go_sem, i6]
                · refine op_value fun a w c => ⟨(wanted_plain rfl), _, run_move _ rfl w, (c.new 1 23 (by kernel_rfl) (by kernel_rfl))⟩
                · refine op_value fun a w c => ⟨(wanted_yes rfl (by kernel_rfl) (c.new 2 24 (by kernel_rfl) (by kernel_rfl))), _, run_move _ rfl w, (c.was 0 (by kernel_rfl) rfl)⟩
                · refine op_value fun a w c => ⟨(wanted_yes rfl (by kernel_rfl) (c.new 2 24 (by kernel_rfl) (by kernel_rfl))), _, run_move _ rfl w, (c.was 3 (by kernel_rfl) rfl)⟩
                · refine op_value fun a w c => ⟨(wanted_yes rfl (by kernel_rfl) (c.new 2 24 (by kernel_rfl) (by kernel_rfl))), .int .i64 (j : Int), ?_, rfl⟩
                  have e26 : a.eval (.tmp 26) = .int .i64 (k : Int) := (c.new 4 26 (by kernel_rfl) (by kernel_rfl))
                  have kc0 : a.eval (.const (.int .i64 1)) = .int .i64 1 := rfl
                  generalize a.eval = ρ at e26 kc0 ⊢
                  simp [execOp, e26, kc0, go_sem, i3]
                · refine op_value fun a w c => ⟨(wanted_yes rfl (by kernel_rfl) (c.new 2 24 (by kernel_rfl) (by kernel_rfl))), .pointer (some ⟨b, off + j * 2, none⟩), ?_, rfl⟩
                  have e25 : a.eval (.tmp 25) = .slice (some ⟨b, off, none⟩) n cap := (c.new 3 25 (by kernel_rfl) (by kernel_rfl))
                  have e27 : a.eval (.tmp 27) = .int .i64 (j : Int) := (c.new 5 27 (by kernel_rfl) (by kernel_rfl))
                  generalize a.eval = ρ at e25 e27 ⊢
                  simp [execOp, e25, e27, go_sem, i4, i5]
                · refine op_value fun a w c => ⟨(wanted_yes rfl (by kernel_rfl) (c.new 2 24 (by kernel_rfl) (by kernel_rfl))), .pointer (some ⟨b, off + j * 2, none⟩), ?_, rfl⟩
                  have e28 : a.eval (.tmp 28) = .pointer (some ⟨b, off + j * 2, none⟩) := (c.new 6 28 (by kernel_rfl) (by kernel_rfl))
                  generalize a.eval = ρ at e28 ⊢
                  simp [execOp, e28, go_sem]
                · refine op_value fun a w c => ⟨(wanted_yes rfl (by kernel_rfl) (c.new 2 24 (by kernel_rfl) (by kernel_rfl))), .slice A0 n0 cap0, ?_, rfl⟩
                  have e29 : a.eval (.tmp 29) = .pointer (some ⟨b, off + j * 2, none⟩) := (c.new 7 29 (by kernel_rfl) (by kernel_rfl))
                  have hc := (c.ev.cell (p := ⟨b, off + j * 2, none⟩) hb1).trans c0p
                  generalize a.eval = ρ at e29 ⊢
                  simp [execOp, e29, hc, go_sem]
                · refine op_value fun a w c => ⟨(wanted_yes rfl (by kernel_rfl) (c.new 2 24 (by kernel_rfl) (by kernel_rfl))), .pointer (some ⟨g, 0, none⟩), ?_, rfl⟩
                  have e4 : a.eval (.tmp 4) = .pointer (some ⟨g, 0, none⟩) := (c.was 4 (by kernel_rfl) rfl)
                  generalize a.eval = ρ at e4 ⊢
                  simp [execOp, e4, go_sem]
                · refine op_value fun a w c => ⟨(wanted_yes rfl (by kernel_rfl) (c.new 2 24 (by kernel_rfl) (by kernel_rfl))), .slice A1 n1 cap1, ?_, rfl⟩
                  have e31 : a.eval (.tmp 31) = .pointer (some ⟨g, 0, none⟩) := (c.new 9 31 (by kernel_rfl) (by kernel_rfl))
                  have hc := (c.ev.cell (p := ⟨g, 0, none⟩) hg1).trans cg
                  generalize a.eval = ρ at e31 ⊢
                  simp [execOp, e31, hc, go_sem]
                · refine op_call fun a w c => ⟨(wanted_yes rfl (by kernel_rfl) (c.new 2 24 (by kernel_rfl) (by kernel_rfl))), 76, #[.slice A0 n0 cap0, .slice A1 n1 cap1], ?_, ?_⟩
                  · rw [run_call 76 _ _ rfl (by kernel_rfl)]
                    have e30 : a.eval (.tmp 30) = .slice A0 n0 cap0 := (c.new 8 30 (by kernel_rfl) (by kernel_rfl))
                    have e32 : a.eval (.tmp 32) = .slice A1 n1 cap1 := (c.new 10 32 (by kernel_rfl) (by kernel_rfl))
                    simp [e30, e32]
                  · refine (HL.out w c.ev).mono ?_
                    rintro e w2 ⟨rfl, hE⟩
                    exact ⟨_, rfl, hE, rfl⟩
                · refine op_value fun a w c => ⟨(wanted_yes rfl (by kernel_rfl) (c.new 2 24 (by kernel_rfl) (by kernel_rfl))), .bool true, ?_, rfl⟩
                  have e33 : a.eval (.tmp 33) = .bool false := (c.new 11 33 (by kernel_rfl) (by kernel_rfl))
                  generalize a.eval = ρ at e33 ⊢
                  simp [execOp, e33, go_sem]
                · refine op_value fun a w c => ⟨(wanted_plain rfl), _, run_pick_true rfl (c.new 2 24 (by kernel_rfl) (by kernel_rfl)) w, (c.new 12 34 (by kernel_rfl) (by kernel_rfl))⟩
              intro s w4 hEr hold hnew
              have f0 : s 0 = .slice (some ⟨b, off, none⟩) n cap := hold 0 (by kernel_rfl)
              have f1 : s 1 = undef := hold 1 (by kernel_rfl)
              have f2 : s 2 = u2 := hold 2 (by kernel_rfl)
              have f3 : s 3 = .int .i64 (k : Int) := hold 3 (by kernel_rfl)
              have f4 : s 4 = .pointer (some ⟨g, 0, none⟩) := hold 4 (by kernel_rfl)
              have f5 : s 5 = .slice (some ⟨b, off, none⟩) n cap := hold 5 (by kernel_rfl)
              have f6 : s 6 = .int .i64 (n : Int) := hold 6 (by kernel_rfl)
              have f7 : s 7 = .int .i64 (k : Int) := hold 7 (by kernel_rfl)
              have f22 : s 22 = .int .i64 (k : Int) := hnew 0 22 (by kernel_rfl)
              have f23 : s 23 = .bool true := hnew 1 23 (by kernel_rfl)
              have f24 : s 24 = .bool true := hnew 2 24 (by kernel_rfl)
              have f25 : s 25 = .slice (some ⟨b, off, none⟩) n cap := hnew 3 25 (by kernel_rfl)
              have f26 : s 26 = .int .i64 (k : Int) := hnew 4 26 (by kernel_rfl)
              have f27 : s 27 = .int .i64 (j : Int) := hnew 5 27 (by kernel_rfl)
              have f28 : s 28 = .pointer (some ⟨b, off + j * 2, none⟩) := hnew 6 28 (by kernel_rfl)
              have f29 : s 29 = .pointer (some ⟨b, off + j * 2, none⟩) := hnew 7 29 (by kernel_rfl)
              have f30 : s 30 = .slice A0 n0 cap0 := hnew 8 30 (by kernel_rfl)
              have f31 : s 31 = .pointer (some ⟨g, 0, none⟩) := hnew 9 31 (by kernel_rfl)
              have f32 : s 32 = .slice A1 n1 cap1 := hnew 10 32 (by kernel_rfl)
              have f33 : s 33 = .bool false := hnew 11 33 (by kernel_rfl)
              have f34 : s 34 = .bool true := hnew 12 34 (by kernel_rfl)
              have f35 : s 35 = .bool true := hnew 13 35 (by kernel_rfl)
              change Exit.then _ _ .normal ⟨#[s 0, s 1, s 2, s 3, s 4, s 5, s 6, s 7, s 8, s 9, s 10, s 11, s 12, s 13, s 14, s 15, s 16, s 17, s 18, s 19, s 20, s 21, s 22, s 23, s 24, s 25, s 26, s 27, s 28, s 29, s 30, s 31, s 32, s 33, s 34, s 35, s 36], _⟩ _
              simp only [f0, f1, f2, f3, f4, f5, f6, f7, f22, f23, f24, f25, f26, f27, f28, f29, f30, f31, f32, f33, f34, f35]
              clear hold hnew
              go_wp2
              go_ret
              exact ⟨by rw [← HF.out]; rfl, ((hE.trans hE0).trans hE1).trans hEr⟩
            · have HS : Hid (setFrom (rowAhead Z (k + 1)) (itemsOf (Z.drop (k + 1))) = sb) := Lib.hid (by
                have e : rowAhead Z (k + 1) = some r1 := by unfold rowAhead; rw [if_neg (by omega), Nat.add_sub_cancel, HX.out]; rfl
                rw [e]
                simpa using hstep)
              clear hstep hj
              go_wp2_with (first | (rw [← hw0]; (with_reducible refine HR.out.mono ?_); rintro e w1 ⟨rfl, hE1⟩; have d1 : w1.cell? ⟨wr.heap.size, 1, none⟩ = some (.complex .f64 (fl p1) (fl q1)) := (B0.ev hE1).c1) | ((with_reducible refine (HKA.out _).mono ?_); rintro e w2 ⟨rfl, rfl⟩))
              have cg : w1.cell? ⟨wr.heap.size, 0, none⟩ = some (.slice A1 n1 cap1) := (B0.ev hE1).c0
              have hg1 := (B0.ev hE1).lt
              have hE01 := hE0.trans hE1
              replace c0p := (hE01.cell (p := ⟨b, off + j * 2, none⟩) hb).trans c0p
              have hb1 : b < w1.heap.size := Nat.lt_of_lt_of_le hb hE01.size
              replace HL := Lib.hid (fun w3 (h3 : Ev w1 w3) => HL w3 (hE01.trans h3))
              obtain ⟨g, hg⟩ : ∃ g, g = wr.heap.size := ⟨_, rfl⟩
              rw [← hg] at cg hg1 ⊢
              clear d0 d1 hg
              refine wp_region_slots hmix [fun v _ => v = .int .i64 (k : Int), fun v _ => v = .bool true, fun v _ => v = .bool true, fun v _ => v = .slice (some ⟨b, off, none⟩) n cap, fun v _ => v = .int .i64 (k : Int), fun v _ => v = .int .i64 (j : Int), fun v _ => v = .pointer (some ⟨b, off + j * 2, none⟩), fun v _ => v = .pointer (some ⟨b, off + j * 2, none⟩), fun v _ => v = .slice A0 n0 cap0, fun v _ => v = .pointer (some ⟨g, 0, none⟩), fun v _ => v = .slice A1 n1 cap1, fun v _ => v = .bool true, fun v _ => v = .bool false, fun v _ => v = .bool false]
                37 rfl (by kernel_rfl) ⟨mono_eq _, mono_eq _, mono_eq _, mono_eq _, mono_eq _, mono_eq _, mono_eq _, mono_eq _, mono_eq _, mono_eq _, mono_eq _, mono_eq _, mono_eq _, mono_eq _, trivial⟩ ?_ ?_
              · refine ops_cons 0 ?_ (ops_cons 1 ?_ (ops_cons 2 ?_ (ops_cons 3 ?_ (ops_cons 4 ?_ (ops_cons 5 ?_ (ops_cons 6 ?_ (ops_cons 7 ?_ (ops_cons 8 ?_ (ops_cons 9 ?_ (ops_cons 10 ?_ (ops_cons 11 ?_ (ops_cons 12 ?_ (ops_cons 13 ?_ (ops_nil 14))))))))))))))
                · refine op_value fun a w c => ⟨(wanted_plain rfl), _, run_move _ rfl w, (c.was 3 (by kernel_rfl) rfl)⟩
                · refine op_value fun a w c => ⟨(wanted_plain rfl), .bool true, ?_, rfl⟩
                  have e22 : a.eval (.tmp 22) = .int .i64 (k : Int) := (c.new 0 22 (by kernel_rfl) (by kernel_rfl))
                  have kc0 : a.eval (.const (.int .i64 0)) = .int .i64 0 := rfl
                  generalize a.eval = ρ at e22 kc0 ⊢
                  simp [execOp, e22, kc0, go_sem, i6]
                · refine op_value fun a w c => ⟨(wanted_plain rfl), _, run_move _ rfl w, (c.new 1 23 (by kernel_rfl) (by kernel_rfl))⟩
                · refine op_value fun a w c => ⟨(wanted_yes rfl (by kernel_rfl) (c.new 2 24 (by kernel_rfl) (by kernel_rfl))), _, run_move _ rfl w, (c.was 0 (by kernel_rfl) rfl)⟩
                · refine op_value fun a w c => ⟨(wanted_yes rfl (by kernel_rfl) (c.new 2 24 (by kernel_rfl) (by kernel_rfl))), _, run_move _ rfl w, (c.was 3 (by kernel_rfl) rfl)⟩
                · refine op_value fun a w c => ⟨(wanted_yes rfl (by kernel_rfl) (c.new 2 24 (by kernel_rfl) (by kernel_rfl))), .int .i64 (j : Int), ?_, rfl⟩
                  have e26 : a.eval (.tmp 26) = .int .i64 (k : Int) := (c.new 4 26 (by kernel_rfl) (by kernel_rfl))
                  have kc0 : a.eval (.const (.int .i64 1)) = .int .i64 1 := rfl
                  generalize a.eval = ρ at e26 kc0 ⊢
                  simp [execOp, e26, kc0, go_sem, i3]
                · refine op_value fun a w c => ⟨(wanted_yes rfl (by kernel_rfl) (c.new 2 24 (by kernel_rfl) (by kernel_rfl))), .pointer (some ⟨b, off + j * 2, none⟩), ?_, rfl⟩
                  have e25 : a.eval (.tmp 25) = .slice (some ⟨b, off, none⟩) n cap := (c.new 3 25 (by kernel_rfl) (by kernel_rfl))
                  have e27 : a.eval (.tmp 27) = .int .i64 (j : Int) := (c.new 5 27 (by kernel_rfl) (by kernel_rfl))
                  generalize a.eval = ρ at e25 e27 ⊢
                  simp [execOp, e25, e27, go_sem, i4, i5]
                · refine op_value fun a w c => ⟨(wanted_yes rfl (by kernel_rfl) (c.new 2 24 (by kernel_rfl) (by kernel_rfl))), .pointer (some ⟨b, off + j * 2, none⟩), ?_, rfl⟩
                  have e28 : a.eval (.tmp 28) = .pointer (some ⟨b, off + j * 2, none⟩) := (c.new 6 28 (by kernel_rfl) (by kernel_rfl))
                  generalize a.eval = ρ at e28 ⊢
                  simp [execOp, e28, go_sem]
                · refine op_value fun a w c => ⟨(wanted_yes rfl (by kernel_rfl) (c.new 2 24 (by kernel_rfl) (by kernel_rfl))), .slice A0 n0 cap0, ?_, rfl⟩
                  have e29 : a.eval (.tmp 29) = .pointer (some ⟨b, off + j * 2, none⟩) := (c.new 7 29 (by kernel_rfl) (by kernel_rfl))
                  have hc := (c.ev.cell (p := ⟨b, off + j * 2, none⟩) hb1).trans c0p
                  generalize a.eval = ρ at e29 ⊢
                  simp [execOp, e29, hc, go_sem]
                · refine op_value fun a w c => ⟨(wanted_yes rfl (by kernel_rfl) (c.new 2 24 (by kernel_rfl) (by kernel_rfl))), .pointer (some ⟨g, 0, none⟩), ?_, rfl⟩
                  have e4 : a.eval (.tmp 4) = .pointer (some ⟨g, 0, none⟩) := (c.was 4 (by kernel_rfl) rfl)
                  generalize a.eval = ρ at e4 ⊢
                  simp [execOp, e4, go_sem]
                · refine op_value fun a w c => ⟨(wanted_yes rfl (by kernel_rfl) (c.new 2 24 (by kernel_rfl) (by kernel_rfl))), .slice A1 n1 cap1, ?_, rfl⟩
                  have e31 : a.eval (.tmp 31) = .pointer (some ⟨g, 0, none⟩) := (c.new 9 31 (by kernel_rfl) (by kernel_rfl))
                  have hc := (c.ev.cell (p := ⟨g, 0, none⟩) hg1).trans cg
                  generalize a.eval = ρ at e31 ⊢
                  simp [execOp, e31, hc, go_sem]
                · refine op_call fun a w c => ⟨(wanted_yes rfl (by kernel_rfl) (c.new 2 24 (by kernel_rfl) (by kernel_rfl))), 76, #[.slice A0 n0 cap0, .slice A1 n1 cap1], ?_, ?_⟩
                  · rw [run_call 76 _ _ rfl (by kernel_rfl)]
                    have e30 : a.eval (.tmp 30) = .slice A0 n0 cap0 := (c.new 8 30 (by kernel_rfl) (by kernel_rfl))
                    have e32 : a.eval (.tmp 32) = .slice A1 n1 cap1 := (c.new 10 32 (by kernel_rfl) (by kernel_rfl))
                    simp [e30, e32]
                  · refine (HL.out w c.ev).mono ?_
                    rintro e w2 ⟨rfl, hE⟩
                    exact ⟨_, rfl, hE, rfl⟩
                · refine op_value fun a w c => ⟨(wanted_yes rfl (by kernel_rfl) (c.new 2 24 (by kernel_rfl) (by kernel_rfl))), .bool false, ?_, rfl⟩
                  have e33 : a.eval (.tmp 33) = .bool true := (c.new 11 33 (by kernel_rfl) (by kernel_rfl))
                  generalize a.eval = ρ at e33 ⊢
                  simp [execOp, e33, go_sem]
                · refine op_value fun a w c => ⟨(wanted_plain rfl), _, run_pick_true rfl (c.new 2 24 (by kernel_rfl) (by kernel_rfl)) w, (c.new 12 34 (by kernel_rfl) (by kernel_rfl))⟩
              intro s w4 hEr hold hnew
              have f0 : s 0 = .slice (some ⟨b, off, none⟩) n cap := hold 0 (by kernel_rfl)
              have f1 : s 1 = undef := hold 1 (by kernel_rfl)
              have f2 : s 2 = u2 := hold 2 (by kernel_rfl)
              have f3 : s 3 = .int .i64 (k : Int) := hold 3 (by kernel_rfl)
              have f4 : s 4 = .pointer (some ⟨g, 0, none⟩) := hold 4 (by kernel_rfl)
              have f5 : s 5 = .slice (some ⟨b, off, none⟩) n cap := hold 5 (by kernel_rfl)
              have f6 : s 6 = .int .i64 (n : Int) := hold 6 (by kernel_rfl)
              have f7 : s 7 = .int .i64 (k : Int) := hold 7 (by kernel_rfl)
              have f22 : s 22 = .int .i64 (k : Int) := hnew 0 22 (by kernel_rfl)
              have f23 : s 23 = .bool true := hnew 1 23 (by kernel_rfl)
              have f24 : s 24 = .bool true := hnew 2 24 (by kernel_rfl)
              have f25 : s 25 = .slice (some ⟨b, off, none⟩) n cap := hnew 3 25 (by kernel_rfl)
              have f26 : s 26 = .int .i64 (k : Int) := hnew 4 26 (by kernel_rfl)
              have f27 : s 27 = .int .i64 (j : Int) := hnew 5 27 (by kernel_rfl)
              have f28 : s 28 = .pointer (some ⟨b, off + j * 2, none⟩) := hnew 6 28 (by kernel_rfl)
              have f29 : s 29 = .pointer (some ⟨b, off + j * 2, none⟩) := hnew 7 29 (by kernel_rfl)
              have f30 : s 30 = .slice A0 n0 cap0 := hnew 8 30 (by kernel_rfl)
              have f31 : s 31 = .pointer (some ⟨g, 0, none⟩) := hnew 9 31 (by kernel_rfl)
              have f32 : s 32 = .slice A1 n1 cap1 := hnew 10 32 (by kernel_rfl)
              have f33 : s 33 = .bool true := hnew 11 33 (by kernel_rfl)
              have f34 : s 34 = .bool false := hnew 12 34 (by kernel_rfl)
              have f35 : s 35 = .bool false := hnew 13 35 (by kernel_rfl)
              change Exit.then _ _ .normal ⟨#[s 0, s 1, s 2, s 3, s 4, s 5, s 6, s 7, s 8, s 9, s 10, s 11, s 12, s 13, s 14, s 15, s 16, s 17, s 18, s 19, s 20, s 21, s 22, s 23, s 24, s 25, s 26, s 27, s 28, s 29, s 30, s 31, s 32, s 33, s 34, s 35, s 36], _⟩ _
              simp only [f0, f1, f2, f3, f4, f5, f6, f7, f22, f23, f24, f25, f26, f27, f28, f29, f30, f31, f32, f33, f34, f35]
              clear hold hnew
              generalize s 8 = u8
              generalize s 9 = u9
              generalize s 10 = u10
              generalize s 11 = u11
              generalize s 12 = u12
              generalize s 13 = u13
              generalize s 14 = u14
              generalize s 15 = u15
              generalize s 16 = u16
              generalize s 17 = u17
              generalize s 18 = u18
              generalize s 19 = u19
              generalize s 20 = u20
              generalize s 21 = u21
              generalize s 36 = u36
              go_wp2
              go_roundw
              case rel => exact ⟨k + 1, by omega, by go_num, HS, ((hE.trans hE0).trans hE1).trans hEr⟩
              case measure => simp [intOf]; omega
    · obtain rfl : k = n := by omega
      have HF : Hid (true = sb) := Lib.hid (by rw [← HT.out, setFrom_end (by rw [HN.out]; exact Nat.le_refl _)])
      go_wp2
      go_ret
      exact ⟨by rw [← HF.out]; rfl, hE⟩
end Go.Proofs.YthpiobkghfdkkaaGreat

namespace Go.Proofs.YthpiobkghfdkkaaGreat
open Go.RowKit
set_option linter.unusedVariables false

/-- Sums do not ask in what order. -/
theorem insF_sum (g : I → Int) (x : I) : ∀ l : List I, ((insF keyI x l).map g).sum = g x + (l.map g).sum
  | [] => by simp [insF]
  | y :: l => by
    have ih := insF_sum g x l
    unfold insF
    split
    · simp only [List.map_cons, List.sum_cons, ih]; omega
    · simp
theorem sortF_sum (g : I → Int) : ∀ l : List I, ((sortF keyI l).map g).sum = (l.map g).sum
  | [] => rfl
  | x :: l => by
    simp only [sortF, insF_sum, sortF_sum g l, List.map_cons, List.sum_cons]
theorem sortF_mem : ∀ (l : List I) (z : I), z ∈ sortF keyI l ↔ z ∈ l
  | [], z => by simp [sortF]
  | x :: l, z => by simp only [sortF, insF_mem, sortF_mem l z, List.mem_cons]
end Go.Proofs.YthpiobkghfdkkaaGreat
