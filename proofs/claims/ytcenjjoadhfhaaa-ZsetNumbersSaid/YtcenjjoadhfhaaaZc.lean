/-
  The contracts of package zset: run, repeats.
-/
import Derived.Test.YtcenjjoadhfhaaaZb
import Derived.Deep.LoopGhost
namespace Go.Proofs.Ytcenjjoadhfhaaa
open Go.RowKit
set_option linter.unusedVariables false


theorem IsRun.of_rises {Z : List J} {k : Nat} (hk : k ≤ Z.length) (h0 : 0 < Z.length → 1 ≤ k) (hu : ∀ i x y, Z[i]? = some x → Z[i + 1]? = some y → i + 1 < k → lessR (keyJ y) (keyJ x) = false)
    (he : ∀ x y, Z[k - 1]? = some x → Z[k]? = some y → lessR (keyJ y) (keyJ x) = true) : IsRun keyJ Z k := ⟨hk, h0, hu, he⟩

set_option maxRecDepth 100000 in
set_option maxHeartbeats 4000000 in
theorem zset_run {b0 : Nat} {A : Option Addr} {n cap : Nat} {Z : List J} (w : World) (h : Zs b0 w A n cap Z) :
    Calls Try.prog 32 #[.slice A n cap] w fun e w' => (∃ k : Nat, e = .returned (.int .i64 (k : Int)) ∧ IsRun keyJ Z k) ∧ Ev w w' := by
  have hn := h.le
  have hm := h.max
  have HN := Lib.hid h.len
  have hmix : Try.prog.follows .mixedOrders = true := by kernel_rfl
  by_cases h0 : n = 0
  · subst h0
    have HF : Hid (IsRun keyJ Z 0) := Lib.hid ⟨Nat.zero_le _, fun hp => (by rw [HN.out] at hp; omega), fun i x y _ _ hi => (by omega), fun x y hx => (by
      have := (List.getElem?_eq_some_iff.1 hx).1
      rw [HN.out] at this; omega)⟩
    go_enter Try.func32, Try.ntmps32
    go_wp2
    go_loopw [3] (fun i wr => i = .int .i64 0 ∧ Ev w wr) (fun i _ => 0)
    case atStart => exact ⟨rfl, Ev.refl _⟩
    case round =>
      obtain ⟨rfl, hE⟩ := hrel
      go_wp2_with fail
      go_quiet (fail)
      go_wp2
      go_ret
      exact ⟨⟨0, rfl, HF.out⟩, hE.trans (Ev.drewN _ _)⟩
  · have i1 : (1 : Int) ≤ (n : Int) := by omega
    go_enter Try.func32, Try.ntmps32
    go_wp2
    go_loopw [3] (fun i wr => ∃ k : Nat, 1 ≤ k ∧ k ≤ n ∧ i = .int .i64 (k : Int) ∧ Hid (∀ i x y, Z[i]? = some x → Z[i + 1]? = some y → i + 1 < k → lessR (keyJ y) (keyJ x) = false) ∧ Ev w wr) (fun i _ => n - (intOf i).toNat)
    case atStart => exact ⟨1, by omega, by omega, rfl, Lib.hid (fun i x y _ _ hi => by omega), Ev.refl _⟩
    case round =>
      obtain ⟨k, hk1, hk, rfl, HT, hE⟩ := hrel
      by_cases hlt : k < n
      · obtain ⟨b, off, z1, rfl, hb, hb0, hx1, c1, _, hv1⟩ := (h.ev hE).at hlt
        obtain ⟨j, hj⟩ : ∃ j, k = j + 1 := ⟨k - 1, by omega⟩
        obtain ⟨b', off', z0, hA', _, _, hx0, c0, _, hv0⟩ := (h.ev hE).at (i := j) (by omega)
        obtain ⟨rfl, rfl⟩ : b = b' ∧ off = off' := by injection hA' with e; injection e with e1 e2; exact ⟨e1, e2⟩
        have HL := Lib.hid (fun w1 (h1 : Ev wr w1) => row_less w1 (hv1.ev h1) (hv0.ev h1))
        have HX1 := Lib.hid hx1
        have HX0 := Lib.hid hx0
        obtain ⟨⟨A1, n1, cap1⟩, r1, p1, q1⟩ := z1
        obtain ⟨⟨A0, n0, cap0⟩, r0, p0, q0⟩ := z0
        clear hx1 hx0 hv1 hv0 hA'
        unfold jrow at c1 c0
        simp only at c1 c0 HL
        generalize hl : lessR r1 r0 = ls at HL
        have HLS := Lib.hid hl
        clear hl
        have i1 : (0 : Int) ≤ (k : Int) := by omega
        have i2 : (k : Int) < (n : Int) := by omega
        have i3 : IntKind.i64.wrap ((k : Int) - 1) = (j : Int) := by rw [show (k : Int) - 1 = (j : Int) by omega]; exact IntWalk.i64_in _ (by omega)
        have i4 : (0 : Int) ≤ (j : Int) := by omega
        have i5 : (j : Int) < (n : Int) := by omega
        have HJ := Lib.hid hj
        clear hj
        cases ls
        · go_wp2_with fail
          refine wp_region_slots hmix [fun v _ => v = .int .i64 (k : Int), fun v _ => v = .slice (some ⟨b, off, none⟩) n cap, fun v _ => v = .int .i64 (n : Int), fun v _ => v = .bool true, fun v _ => v = .bool true, fun v _ => v = .slice (some ⟨b, off, none⟩) n cap, fun v _ => v = .int .i64 (k : Int), fun v _ => v = .pointer (some ⟨b, off + k * 2, none⟩), fun v _ => v = .pointer (some ⟨b, off + k * 2, none⟩), fun v _ => v = .slice A1 n1 cap1, fun v _ => v = .slice (some ⟨b, off, none⟩) n cap, fun v _ => v = .int .i64 (k : Int), fun v _ => v = .int .i64 (j : Int), fun v _ => v = .pointer (some ⟨b, off + j * 2, none⟩), fun v _ => v = .pointer (some ⟨b, off + j * 2, none⟩), fun v _ => v = .slice A0 n0 cap0, fun v _ => v = .bool false, fun v _ => v = .bool true, fun v _ => v = .bool true]
            29 rfl (by kernel_rfl) ⟨mono_eq _, mono_eq _, mono_eq _, mono_eq _, mono_eq _, mono_eq _, mono_eq _, mono_eq _, mono_eq _, mono_eq _, mono_eq _, mono_eq _, mono_eq _, mono_eq _, mono_eq _, mono_eq _, mono_eq _, mono_eq _, mono_eq _, trivial⟩ ?_ ?_
          · refine ops_cons 0 ?_ (ops_cons 1 ?_ (ops_cons 2 ?_ (ops_cons 3 ?_ (ops_cons 4 ?_ (ops_cons 5 ?_ (ops_cons 6 ?_ (ops_cons 7 ?_ (ops_cons 8 ?_ (ops_cons 9 ?_ (ops_cons 10 ?_ (ops_cons 11 ?_ (ops_cons 12 ?_ (ops_cons 13 ?_ (ops_cons 14 ?_ (ops_cons 15 ?_ (ops_cons 16 ?_ (ops_cons 17 ?_ (ops_cons 18 ?_ (ops_nil 19)))))))))))))))))))
            · refine op_value fun a w c => ⟨(wanted_plain rfl), _, run_move _ rfl w, (c.was 3 (by kernel_rfl) rfl)⟩
            · refine op_value fun a w c => ⟨(wanted_plain rfl), _, run_move _ rfl w, (c.was 0 (by kernel_rfl) rfl)⟩
            · refine op_value fun a w c => ⟨(wanted_plain rfl), _, run_len_items rfl ((c.new 1 8 (by kernel_rfl) (by kernel_rfl)) : a.eval (.tmp 8) = .slice (some ⟨b, off, none⟩) n cap) w, rfl⟩
            · refine op_value fun a w c => ⟨(wanted_plain rfl), .bool true, ?_, rfl⟩
              have e7 : a.eval (.tmp 7) = .int .i64 (k : Int) := (c.new 0 7 (by kernel_rfl) (by kernel_rfl))
              have e9 : a.eval (.tmp 9) = .int .i64 (n : Int) := (c.new 2 9 (by kernel_rfl) (by kernel_rfl))
              generalize a.eval = ρ at e7 e9 ⊢
              simp [execOp, e7, e9, go_sem, i2]
            · refine op_value fun a w c => ⟨(wanted_plain rfl), _, run_move _ rfl w, (c.new 3 10 (by kernel_rfl) (by kernel_rfl))⟩
            · refine op_value fun a w c => ⟨(wanted_yes rfl (by kernel_rfl) (c.new 4 11 (by kernel_rfl) (by kernel_rfl))), _, run_move _ rfl w, (c.was 0 (by kernel_rfl) rfl)⟩
            · refine op_value fun a w c => ⟨(wanted_yes rfl (by kernel_rfl) (c.new 4 11 (by kernel_rfl) (by kernel_rfl))), _, run_move _ rfl w, (c.was 3 (by kernel_rfl) rfl)⟩
            · refine op_value fun a w c => ⟨(wanted_yes rfl (by kernel_rfl) (c.new 4 11 (by kernel_rfl) (by kernel_rfl))), .pointer (some ⟨b, off + k * 2, none⟩), ?_, rfl⟩
              have e12 : a.eval (.tmp 12) = .slice (some ⟨b, off, none⟩) n cap := (c.new 5 12 (by kernel_rfl) (by kernel_rfl))
              have e13 : a.eval (.tmp 13) = .int .i64 (k : Int) := (c.new 6 13 (by kernel_rfl) (by kernel_rfl))
              generalize a.eval = ρ at e12 e13 ⊢
              simp [execOp, e12, e13, go_sem, i1, i2]
            · refine op_value fun a w c => ⟨(wanted_yes rfl (by kernel_rfl) (c.new 4 11 (by kernel_rfl) (by kernel_rfl))), .pointer (some ⟨b, off + k * 2, none⟩), ?_, rfl⟩
              have e14 : a.eval (.tmp 14) = .pointer (some ⟨b, off + k * 2, none⟩) := (c.new 7 14 (by kernel_rfl) (by kernel_rfl))
              generalize a.eval = ρ at e14 ⊢
              simp [execOp, e14, go_sem]
            · refine op_value fun a w c => ⟨(wanted_yes rfl (by kernel_rfl) (c.new 4 11 (by kernel_rfl) (by kernel_rfl))), .slice A1 n1 cap1, ?_, rfl⟩
              have e15 : a.eval (.tmp 15) = .pointer (some ⟨b, off + k * 2, none⟩) := (c.new 8 15 (by kernel_rfl) (by kernel_rfl))
              have hc := (c.ev.cell (p := ⟨b, off + k * 2, none⟩) hb).trans c1
              generalize a.eval = ρ at e15 ⊢
              simp [execOp, e15, hc, go_sem]
            · refine op_value fun a w c => ⟨(wanted_yes rfl (by kernel_rfl) (c.new 4 11 (by kernel_rfl) (by kernel_rfl))), _, run_move _ rfl w, (c.was 0 (by kernel_rfl) rfl)⟩
            · refine op_value fun a w c => ⟨(wanted_yes rfl (by kernel_rfl) (c.new 4 11 (by kernel_rfl) (by kernel_rfl))), _, run_move _ rfl w, (c.was 3 (by kernel_rfl) rfl)⟩
            · refine op_value fun a w c => ⟨(wanted_yes rfl (by kernel_rfl) (c.new 4 11 (by kernel_rfl) (by kernel_rfl))), .int .i64 (j : Int), ?_, rfl⟩
              have e18 : a.eval (.tmp 18) = .int .i64 (k : Int) := (c.new 11 18 (by kernel_rfl) (by kernel_rfl))
              have kc0 : a.eval (.const (.int .i64 1)) = .int .i64 1 := rfl
              generalize a.eval = ρ at e18 kc0 ⊢
              simp [execOp, e18, kc0, go_sem, i3]
            · refine op_value fun a w c => ⟨(wanted_yes rfl (by kernel_rfl) (c.new 4 11 (by kernel_rfl) (by kernel_rfl))), .pointer (some ⟨b, off + j * 2, none⟩), ?_, rfl⟩
              have e17 : a.eval (.tmp 17) = .slice (some ⟨b, off, none⟩) n cap := (c.new 10 17 (by kernel_rfl) (by kernel_rfl))
              have e19 : a.eval (.tmp 19) = .int .i64 (j : Int) := (c.new 12 19 (by kernel_rfl) (by kernel_rfl))
              generalize a.eval = ρ at e17 e19 ⊢
              simp [execOp, e17, e19, go_sem, i4, i5]
            · refine op_value fun a w c => ⟨(wanted_yes rfl (by kernel_rfl) (c.new 4 11 (by kernel_rfl) (by kernel_rfl))), .pointer (some ⟨b, off + j * 2, none⟩), ?_, rfl⟩
              have e20 : a.eval (.tmp 20) = .pointer (some ⟨b, off + j * 2, none⟩) := (c.new 13 20 (by kernel_rfl) (by kernel_rfl))
              generalize a.eval = ρ at e20 ⊢
              simp [execOp, e20, go_sem]
            · refine op_value fun a w c => ⟨(wanted_yes rfl (by kernel_rfl) (c.new 4 11 (by kernel_rfl) (by kernel_rfl))), .slice A0 n0 cap0, ?_, rfl⟩
              have e21 : a.eval (.tmp 21) = .pointer (some ⟨b, off + j * 2, none⟩) := (c.new 14 21 (by kernel_rfl) (by kernel_rfl))
              have hc := (c.ev.cell (p := ⟨b, off + j * 2, none⟩) hb).trans c0
              generalize a.eval = ρ at e21 ⊢
              simp [execOp, e21, hc, go_sem]
            · refine op_call fun a w c => ⟨(wanted_yes rfl (by kernel_rfl) (c.new 4 11 (by kernel_rfl) (by kernel_rfl))), 28, #[.slice A1 n1 cap1, .slice A0 n0 cap0], ?_, ?_⟩
              · rw [run_call 28 _ _ rfl (by kernel_rfl)]
                have e16 : a.eval (.tmp 16) = .slice A1 n1 cap1 := (c.new 9 16 (by kernel_rfl) (by kernel_rfl))
                have e22 : a.eval (.tmp 22) = .slice A0 n0 cap0 := (c.new 15 22 (by kernel_rfl) (by kernel_rfl))
                simp [e16, e22]
              · refine (HL.out w c.ev).mono ?_
                rintro e w2 ⟨rfl, hE⟩
                exact ⟨_, rfl, hE, rfl⟩
            · refine op_value fun a w c => ⟨(wanted_yes rfl (by kernel_rfl) (c.new 4 11 (by kernel_rfl) (by kernel_rfl))), .bool true, ?_, rfl⟩
              have e23 : a.eval (.tmp 23) = .bool false := (c.new 16 23 (by kernel_rfl) (by kernel_rfl))
              generalize a.eval = ρ at e23 ⊢
              simp [execOp, e23, go_sem]
            · refine op_value fun a w c => ⟨(wanted_plain rfl), _, run_pick_true rfl (c.new 4 11 (by kernel_rfl) (by kernel_rfl)) w, (c.new 17 24 (by kernel_rfl) (by kernel_rfl))⟩
          intro s w4 hEr hold hnew
          have f0 : s 0 = .slice (some ⟨b, off, none⟩) n cap := hold 0 (by kernel_rfl)
          have f1 : s 1 = undef := hold 1 (by kernel_rfl)
          have f2 : s 2 = .int .i64 0 := hold 2 (by kernel_rfl)
          have f3 : s 3 = .int .i64 (k : Int) := hold 3 (by kernel_rfl)
          have f4 : s 4 = .slice (some ⟨b, off, none⟩) n cap := hold 4 (by kernel_rfl)
          have f5 : s 5 = .int .i64 (n : Int) := hold 5 (by kernel_rfl)
          have f6 : s 6 = .int .i64 1 := hold 6 (by kernel_rfl)
          have f28 : s 28 = undef := hold 28 (by kernel_rfl)
          have f7 : s 7 = .int .i64 (k : Int) := hnew 0 7 (by kernel_rfl)
          have f8 : s 8 = .slice (some ⟨b, off, none⟩) n cap := hnew 1 8 (by kernel_rfl)
          have f9 : s 9 = .int .i64 (n : Int) := hnew 2 9 (by kernel_rfl)
          have f10 : s 10 = .bool true := hnew 3 10 (by kernel_rfl)
          have f11 : s 11 = .bool true := hnew 4 11 (by kernel_rfl)
          have f12 : s 12 = .slice (some ⟨b, off, none⟩) n cap := hnew 5 12 (by kernel_rfl)
          have f13 : s 13 = .int .i64 (k : Int) := hnew 6 13 (by kernel_rfl)
          have f14 : s 14 = .pointer (some ⟨b, off + k * 2, none⟩) := hnew 7 14 (by kernel_rfl)
          have f15 : s 15 = .pointer (some ⟨b, off + k * 2, none⟩) := hnew 8 15 (by kernel_rfl)
          have f16 : s 16 = .slice A1 n1 cap1 := hnew 9 16 (by kernel_rfl)
          have f17 : s 17 = .slice (some ⟨b, off, none⟩) n cap := hnew 10 17 (by kernel_rfl)
          have f18 : s 18 = .int .i64 (k : Int) := hnew 11 18 (by kernel_rfl)
          have f19 : s 19 = .int .i64 (j : Int) := hnew 12 19 (by kernel_rfl)
          have f20 : s 20 = .pointer (some ⟨b, off + j * 2, none⟩) := hnew 13 20 (by kernel_rfl)
          have f21 : s 21 = .pointer (some ⟨b, off + j * 2, none⟩) := hnew 14 21 (by kernel_rfl)
          have f22 : s 22 = .slice A0 n0 cap0 := hnew 15 22 (by kernel_rfl)
          have f23 : s 23 = .bool false := hnew 16 23 (by kernel_rfl)
          have f24 : s 24 = .bool true := hnew 17 24 (by kernel_rfl)
          have f25 : s 25 = .bool true := hnew 18 25 (by kernel_rfl)
          change Exit.then _ _ .normal ⟨#[s 0, s 1, s 2, s 3, s 4, s 5, s 6, s 7, s 8, s 9, s 10, s 11, s 12, s 13, s 14, s 15, s 16, s 17, s 18, s 19, s 20, s 21, s 22, s 23, s 24, s 25, s 26, s 27, s 28], _⟩ _
          simp only [f0, f1, f2, f3, f4, f5, f6, f28, f7, f8, f9, f10, f11, f12, f13, f14, f15, f16, f17, f18, f19, f20, f21, f22, f23, f24, f25]
          clear hold hnew
          generalize s 26 = u26
          generalize s 27 = u27
          go_wp2
          go_roundw
          case rel =>
            refine ⟨k + 1, by omega, by omega, by go_num, Lib.hid (fun i x y hx hy hi => ?_), hE.trans hEr⟩
            by_cases hij : i + 1 < k
            · exact HT.out i x y hx hy hij
            · have hj := HJ.out
              obtain rfl : i = j := by omega
              rw [← hj] at hy
              rw [HX0.out] at hx
              rw [HX1.out] at hy
              obtain rfl := Option.some.inj hx
              obtain rfl := Option.some.inj hy
              exact HLS.out
          case measure => simp [intOf]; omega
        · go_wp2_with fail
          refine wp_region_slots hmix [fun v _ => v = .int .i64 (k : Int), fun v _ => v = .slice (some ⟨b, off, none⟩) n cap, fun v _ => v = .int .i64 (n : Int), fun v _ => v = .bool true, fun v _ => v = .bool true, fun v _ => v = .slice (some ⟨b, off, none⟩) n cap, fun v _ => v = .int .i64 (k : Int), fun v _ => v = .pointer (some ⟨b, off + k * 2, none⟩), fun v _ => v = .pointer (some ⟨b, off + k * 2, none⟩), fun v _ => v = .slice A1 n1 cap1, fun v _ => v = .slice (some ⟨b, off, none⟩) n cap, fun v _ => v = .int .i64 (k : Int), fun v _ => v = .int .i64 (j : Int), fun v _ => v = .pointer (some ⟨b, off + j * 2, none⟩), fun v _ => v = .pointer (some ⟨b, off + j * 2, none⟩), fun v _ => v = .slice A0 n0 cap0, fun v _ => v = .bool true, fun v _ => v = .bool false, fun v _ => v = .bool false]
            29 rfl (by kernel_rfl) ⟨mono_eq _, mono_eq _, mono_eq _, mono_eq _, mono_eq _, mono_eq _, mono_eq _, mono_eq _, mono_eq _, mono_eq _, mono_eq _, mono_eq _, mono_eq _, mono_eq _, mono_eq _, mono_eq _, mono_eq _, mono_eq _, mono_eq _, trivial⟩ ?_ ?_
          · refine ops_cons 0 ?_ (ops_cons 1 ?_ (ops_cons 2 ?_ (ops_cons 3 ?_ (ops_cons 4 ?_ (ops_cons 5 ?_ (ops_cons 6 ?_ (ops_cons 7 ?_ (ops_cons 8 ?_ (ops_cons 9 ?_ (ops_cons 10 ?_ (ops_cons 11 ?_ (ops_cons 12 ?_ (ops_cons 13 ?_ (ops_cons 14 ?_ (ops_cons 15 ?_ (ops_cons 16 ?_ (ops_cons 17 ?_ (ops_cons 18 ?_ (ops_nil 19)))))))))))))))))))
            · refine op_value fun a w c => ⟨(wanted_plain rfl), _, run_move _ rfl w, (c.was 3 (by kernel_rfl) rfl)⟩
            · refine op_value fun a w c => ⟨(wanted_plain rfl), _, run_move _ rfl w, (c.was 0 (by kernel_rfl) rfl)⟩
            · refine op_value fun a w c => ⟨(wanted_plain rfl), _, run_len_items rfl ((c.new 1 8 (by kernel_rfl) (by kernel_rfl)) : a.eval (.tmp 8) = .slice (some ⟨b, off, none⟩) n cap) w, rfl⟩
            · refine op_value fun a w c => ⟨(wanted_plain rfl), .bool true, ?_, rfl⟩
              have e7 : a.eval (.tmp 7) = .int .i64 (k : Int) := (c.new 0 7 (by kernel_rfl) (by kernel_rfl))
              have e9 : a.eval (.tmp 9) = .int .i64 (n : Int) := (c.new 2 9 (by kernel_rfl) (by kernel_rfl))
              generalize a.eval = ρ at e7 e9 ⊢
              simp [execOp, e7, e9, go_sem, i2]
            · refine op_value fun a w c => ⟨(wanted_plain rfl), _, run_move _ rfl w, (c.new 3 10 (by kernel_rfl) (by kernel_rfl))⟩
            · refine op_value fun a w c => ⟨(wanted_yes rfl (by kernel_rfl) (c.new 4 11 (by kernel_rfl) (by kernel_rfl))), _, run_move _ rfl w, (c.was 0 (by kernel_rfl) rfl)⟩
            · refine op_value fun a w c => ⟨(wanted_yes rfl (by kernel_rfl) (c.new 4 11 (by kernel_rfl) (by kernel_rfl))), _, run_move _ rfl w, (c.was 3 (by kernel_rfl) rfl)⟩
            · refine op_value fun a w c => ⟨(wanted_yes rfl (by kernel_rfl) (c.new 4 11 (by kernel_rfl) (by kernel_rfl))), .pointer (some ⟨b, off + k * 2, none⟩), ?_, rfl⟩
              have e12 : a.eval (.tmp 12) = .slice (some ⟨b, off, none⟩) n cap := (c.new 5 12 (by kernel_rfl) (by kernel_rfl))
              have e13 : a.eval (.tmp 13) = .int .i64 (k : Int) := (c.new 6 13 (by kernel_rfl) (by kernel_rfl))
              generalize a.eval = ρ at e12 e13 ⊢
              simp [execOp, e12, e13, go_sem, i1, i2]
            · refine op_value fun a w c => ⟨(wanted_yes rfl (by kernel_rfl) (c.new 4 11 (by kernel_rfl) (by kernel_rfl))), .pointer (some ⟨b, off + k * 2, none⟩), ?_, rfl⟩
              have e14 : a.eval (.tmp 14) = .pointer (some ⟨b, off + k * 2, none⟩) := (c.new 7 14 (by kernel_rfl) (by kernel_rfl))
              generalize a.eval = ρ at e14 ⊢
              simp [execOp, e14, go_sem]
            · refine op_value fun a w c => ⟨(wanted_yes rfl (by kernel_rfl) (c.new 4 11 (by kernel_rfl) (by kernel_rfl))), .slice A1 n1 cap1, ?_, rfl⟩
              have e15 : a.eval (.tmp 15) = .pointer (some ⟨b, off + k * 2, none⟩) := (c.new 8 15 (by kernel_rfl) (by kernel_rfl))
              have hc := (c.ev.cell (p := ⟨b, off + k * 2, none⟩) hb).trans c1
              generalize a.eval = ρ at e15 ⊢
              simp [execOp, e15, hc, go_sem]
            · refine op_value fun a w c => ⟨(wanted_yes rfl (by kernel_rfl) (c.new 4 11 (by kernel_rfl) (by kernel_rfl))), _, run_move _ rfl w, (c.was 0 (by kernel_rfl) rfl)⟩
            · refine op_value fun a w c => ⟨(wanted_yes rfl (by kernel_rfl) (c.new 4 11 (by kernel_rfl) (by kernel_rfl))), _, run_move _ rfl w, (c.was 3 (by kernel_rfl) rfl)⟩
            · refine op_value fun a w c => ⟨(wanted_yes rfl (by kernel_rfl) (c.new 4 11 (by kernel_rfl) (by kernel_rfl))), .int .i64 (j : Int), ?_, rfl⟩
              have e18 : a.eval (.tmp 18) = .int .i64 (k : Int) := (c.new 11 18 (by kernel_rfl) (by kernel_rfl))
              have kc0 : a.eval (.const (.int .i64 1)) = .int .i64 1 := rfl
              generalize a.eval = ρ at e18 kc0 ⊢
              simp [execOp, e18, kc0, go_sem, i3]
            · refine op_value fun a w c => ⟨(wanted_yes rfl (by kernel_rfl) (c.new 4 11 (by kernel_rfl) (by kernel_rfl))), .pointer (some ⟨b, off + j * 2, none⟩), ?_, rfl⟩
              have e17 : a.eval (.tmp 17) = .slice (some ⟨b, off, none⟩) n cap := (c.new 10 17 (by kernel_rfl) (by kernel_rfl))
              have e19 : a.eval (.tmp 19) = .int .i64 (j : Int) := (c.new 12 19 (by kernel_rfl) (by kernel_rfl))
              generalize a.eval = ρ at e17 e19 ⊢
              simp [execOp, e17, e19, go_sem, i4, i5]
            · refine op_value fun a w c => ⟨(wanted_yes rfl (by kernel_rfl) (c.new 4 11 (by kernel_rfl) (by kernel_rfl))), .pointer (some ⟨b, off + j * 2, none⟩), ?_, rfl⟩
              have e20 : a.eval (.tmp 20) = .pointer (some ⟨b, off + j * 2, none⟩) := (c.new 13 20 (by kernel_rfl) (by kernel_rfl))
              generalize a.eval = ρ at e20 ⊢
              simp [execOp, e20, go_sem]
            · refine op_value fun a w c => ⟨(wanted_yes rfl (by kernel_rfl) (c.new 4 11 (by kernel_rfl) (by kernel_rfl))), .slice A0 n0 cap0, ?_, rfl⟩
              have e21 : a.eval (.tmp 21) = .pointer (some ⟨b, off + j * 2, none⟩) := (c.new 14 21 (by kernel_rfl) (by kernel_rfl))
              have hc := (c.ev.cell (p := ⟨b, off + j * 2, none⟩) hb).trans c0
              generalize a.eval = ρ at e21 ⊢
              simp [execOp, e21, hc, go_sem]
            · refine op_call fun a w c => ⟨(wanted_yes rfl (by kernel_rfl) (c.new 4 11 (by kernel_rfl) (by kernel_rfl))), 28, #[.slice A1 n1 cap1, .slice A0 n0 cap0], ?_, ?_⟩
              · rw [run_call 28 _ _ rfl (by kernel_rfl)]
                have e16 : a.eval (.tmp 16) = .slice A1 n1 cap1 := (c.new 9 16 (by kernel_rfl) (by kernel_rfl))
                have e22 : a.eval (.tmp 22) = .slice A0 n0 cap0 := (c.new 15 22 (by kernel_rfl) (by kernel_rfl))
                simp [e16, e22]
              · refine (HL.out w c.ev).mono ?_
                rintro e w2 ⟨rfl, hE⟩
                exact ⟨_, rfl, hE, rfl⟩
            · refine op_value fun a w c => ⟨(wanted_yes rfl (by kernel_rfl) (c.new 4 11 (by kernel_rfl) (by kernel_rfl))), .bool false, ?_, rfl⟩
              have e23 : a.eval (.tmp 23) = .bool true := (c.new 16 23 (by kernel_rfl) (by kernel_rfl))
              generalize a.eval = ρ at e23 ⊢
              simp [execOp, e23, go_sem]
            · refine op_value fun a w c => ⟨(wanted_plain rfl), _, run_pick_true rfl (c.new 4 11 (by kernel_rfl) (by kernel_rfl)) w, (c.new 17 24 (by kernel_rfl) (by kernel_rfl))⟩
          intro s w4 hEr hold hnew
          have f0 : s 0 = .slice (some ⟨b, off, none⟩) n cap := hold 0 (by kernel_rfl)
          have f1 : s 1 = undef := hold 1 (by kernel_rfl)
          have f2 : s 2 = .int .i64 0 := hold 2 (by kernel_rfl)
          have f3 : s 3 = .int .i64 (k : Int) := hold 3 (by kernel_rfl)
          have f4 : s 4 = .slice (some ⟨b, off, none⟩) n cap := hold 4 (by kernel_rfl)
          have f5 : s 5 = .int .i64 (n : Int) := hold 5 (by kernel_rfl)
          have f6 : s 6 = .int .i64 1 := hold 6 (by kernel_rfl)
          have f28 : s 28 = undef := hold 28 (by kernel_rfl)
          have f7 : s 7 = .int .i64 (k : Int) := hnew 0 7 (by kernel_rfl)
          have f8 : s 8 = .slice (some ⟨b, off, none⟩) n cap := hnew 1 8 (by kernel_rfl)
          have f9 : s 9 = .int .i64 (n : Int) := hnew 2 9 (by kernel_rfl)
          have f10 : s 10 = .bool true := hnew 3 10 (by kernel_rfl)
          have f11 : s 11 = .bool true := hnew 4 11 (by kernel_rfl)
          have f12 : s 12 = .slice (some ⟨b, off, none⟩) n cap := hnew 5 12 (by kernel_rfl)
          have f13 : s 13 = .int .i64 (k : Int) := hnew 6 13 (by kernel_rfl)
          have f14 : s 14 = .pointer (some ⟨b, off + k * 2, none⟩) := hnew 7 14 (by kernel_rfl)
          have f15 : s 15 = .pointer (some ⟨b, off + k * 2, none⟩) := hnew 8 15 (by kernel_rfl)
          have f16 : s 16 = .slice A1 n1 cap1 := hnew 9 16 (by kernel_rfl)
          have f17 : s 17 = .slice (some ⟨b, off, none⟩) n cap := hnew 10 17 (by kernel_rfl)
          have f18 : s 18 = .int .i64 (k : Int) := hnew 11 18 (by kernel_rfl)
          have f19 : s 19 = .int .i64 (j : Int) := hnew 12 19 (by kernel_rfl)
          have f20 : s 20 = .pointer (some ⟨b, off + j * 2, none⟩) := hnew 13 20 (by kernel_rfl)
          have f21 : s 21 = .pointer (some ⟨b, off + j * 2, none⟩) := hnew 14 21 (by kernel_rfl)
          have f22 : s 22 = .slice A0 n0 cap0 := hnew 15 22 (by kernel_rfl)
          have f23 : s 23 = .bool true := hnew 16 23 (by kernel_rfl)
          have f24 : s 24 = .bool false := hnew 17 24 (by kernel_rfl)
          have f25 : s 25 = .bool false := hnew 18 25 (by kernel_rfl)
          change Exit.then _ _ .normal ⟨#[s 0, s 1, s 2, s 3, s 4, s 5, s 6, s 7, s 8, s 9, s 10, s 11, s 12, s 13, s 14, s 15, s 16, s 17, s 18, s 19, s 20, s 21, s 22, s 23, s 24, s 25, s 26, s 27, s 28], _⟩ _
          simp only [f0, f1, f2, f3, f4, f5, f6, f28, f7, f8, f9, f10, f11, f12, f13, f14, f15, f16, f17, f18, f19, f20, f21, f22, f23, f24, f25]
          clear hold hnew
          go_wp2
          go_ret
          refine ⟨⟨k, rfl, by rw [HN.out]; omega, fun _ => by omega, HT.out, fun x y hx hy => ?_⟩, hE.trans hEr⟩
          rw [show k - 1 = j by have := HJ.out; omega, HX0.out] at hx
          rw [HX1.out] at hy
          obtain rfl := Option.some.inj hx
          obtain rfl := Option.some.inj hy
          exact HLS.out
      · obtain rfl : k = n := by omega
        have HF : Hid (IsRun keyJ Z k) := Lib.hid ⟨by rw [HN.out]; omega, fun _ => by omega, HT.out, fun x y hx hy => by
          have := (List.getElem?_eq_some_iff.1 hy).1
          rw [HN.out] at this; omega⟩
        have i2 : ¬ (k : Int) < (k : Int) := by omega
        go_wp2_with fail
        go_quiet (fail)
        go_wp2
        go_ret
        exact ⟨⟨k, rfl, HF.out⟩, hE.trans (Ev.drewN _ _)⟩

/-- The first k items are of one row, and the next one is not. -/
structure Reps (Z : List J) (k : Nat) : Prop where
  le : k ≤ Z.length
  pos : 1 ≤ k
  same : ∀ i x z, i < k → Z[i]? = some x → Z[0]? = some z → sameR (keyJ x) (keyJ z) = true
  ends : ∀ x z, Z[k]? = some x → Z[0]? = some z → sameR (keyJ x) (keyJ z) = false

set_option maxRecDepth 100000 in
set_option maxHeartbeats 4000000 in
theorem zset_repeats {b0 : Nat} {A : Option Addr} {n cap : Nat} {Z : List J} (w : World) (h : Zs b0 w A n cap Z) (hpos : 0 < n) (hr : AllRight keyJ Z) :
    Calls Try.prog 17 #[.slice A n cap] w fun e w' => (∃ k : Nat, e = .returned (.int .i64 (k : Int)) ∧ Reps Z k) ∧ Ev w w' := by
  have hn := h.le
  have hm := h.max
  have HN := Lib.hid h.len
  have HR := Lib.hid hr
  clear hr
  have hmix : Try.prog.follows .mixedOrders = true := by kernel_rfl
  go_enter Try.func17, Try.ntmps17
  go_wp2
  go_loopw [3] (fun i wr => ∃ k : Nat, 1 ≤ k ∧ k ≤ n ∧ i = .int .i64 (k : Int) ∧ Hid (∀ i x z, i < k → Z[i]? = some x → Z[0]? = some z → sameR (keyJ x) (keyJ z) = true) ∧ Ev w wr) (fun i _ => n - (intOf i).toNat)
  case atStart => exact ⟨1, by omega, by omega, rfl, Lib.hid (fun i x z hi hx hz => by
    obtain rfl : i = 0 := by omega
    rw [hx] at hz
    obtain rfl := Option.some.inj hz
    unfold sameR
    rw [HR.out x (List.mem_of_getElem? hx)]
    simp [eqL]), Ev.refl _⟩
  case round =>
    obtain ⟨k, hk1, hk, rfl, HT, hE⟩ := hrel
    by_cases hlt : k < n
    · obtain ⟨b, off, z1, rfl, hb, hb0, hx1, c1, _, hv1⟩ := (h.ev hE).at hlt
      obtain ⟨b', off', z0, hA', _, _, hx0, c0, _, hv0⟩ := (h.ev hE).at (i := 0) (by omega)
      obtain ⟨rfl, rfl⟩ : b = b' ∧ off = off' := by injection hA' with e; injection e with e1 e2; exact ⟨e1, e2⟩
      rw [Nat.zero_mul, Nat.add_zero] at c0
      have HL := Lib.hid (fun w1 (h1 : Ev wr w1) => row_same w1 (hv1.ev h1) (hv0.ev h1))
      have HX1 := Lib.hid hx1
      have HX0 := Lib.hid hx0
      obtain ⟨⟨A1, n1, cap1⟩, r1, p1, q1⟩ := z1
      obtain ⟨⟨A0, n0, cap0⟩, r0, p0, q0⟩ := z0
      clear hx1 hx0 hv1 hv0 hA'
      unfold jrow at c1 c0
      simp only at c1 c0 HL
      generalize hl : sameR r1 r0 = ls at HL
      have HLS := Lib.hid hl
      clear hl
      have i1 : (0 : Int) ≤ (k : Int) := by omega
      have i2 : (k : Int) < (n : Int) := by omega
      have i5 : ¬ n = 0 := by omega
      cases ls
      · go_wp2_with fail
        refine wp_region_slots hmix [fun v _ => v = .int .i64 (k : Int), fun v _ => v = .slice (some ⟨b, off, none⟩) n cap, fun v _ => v = .int .i64 (n : Int), fun v _ => v = .bool true, fun v _ => v = .bool true, fun v _ => v = .slice (some ⟨b, off, none⟩) n cap, fun v _ => v = .int .i64 (k : Int), fun v _ => v = .pointer (some ⟨b, off + k * 2, none⟩), fun v _ => v = .pointer (some ⟨b, off + k * 2, none⟩), fun v _ => v = .slice A1 n1 cap1, fun v _ => v = .slice (some ⟨b, off, none⟩) n cap, fun v _ => v = .pointer (some ⟨b, off, none⟩), fun v _ => v = .pointer (some ⟨b, off, none⟩), fun v _ => v = .slice A0 n0 cap0, fun v _ => v = .bool false, fun v _ => v = .bool false]
          23 rfl (by kernel_rfl) ⟨mono_eq _, mono_eq _, mono_eq _, mono_eq _, mono_eq _, mono_eq _, mono_eq _, mono_eq _, mono_eq _, mono_eq _, mono_eq _, mono_eq _, mono_eq _, mono_eq _, mono_eq _, mono_eq _, trivial⟩ ?_ ?_
        · refine ops_cons 0 ?_ (ops_cons 1 ?_ (ops_cons 2 ?_ (ops_cons 3 ?_ (ops_cons 4 ?_ (ops_cons 5 ?_ (ops_cons 6 ?_ (ops_cons 7 ?_ (ops_cons 8 ?_ (ops_cons 9 ?_ (ops_cons 10 ?_ (ops_cons 11 ?_ (ops_cons 12 ?_ (ops_cons 13 ?_ (ops_cons 14 ?_ (ops_cons 15 ?_ (ops_nil 16))))))))))))))))
          · refine op_value fun a w c => ⟨(wanted_plain rfl), _, run_move _ rfl w, (c.was 3 (by kernel_rfl) rfl)⟩
          · refine op_value fun a w c => ⟨(wanted_plain rfl), _, run_move _ rfl w, (c.was 0 (by kernel_rfl) rfl)⟩
          · refine op_value fun a w c => ⟨(wanted_plain rfl), _, run_len_items rfl ((c.new 1 5 (by kernel_rfl) (by kernel_rfl)) : a.eval (.tmp 5) = .slice (some ⟨b, off, none⟩) n cap) w, rfl⟩
          · refine op_value fun a w c => ⟨(wanted_plain rfl), .bool true, ?_, rfl⟩
            have e4 : a.eval (.tmp 4) = .int .i64 (k : Int) := (c.new 0 4 (by kernel_rfl) (by kernel_rfl))
            have e6 : a.eval (.tmp 6) = .int .i64 (n : Int) := (c.new 2 6 (by kernel_rfl) (by kernel_rfl))
            generalize a.eval = ρ at e4 e6 ⊢
            simp [execOp, e4, e6, go_sem, i2]
          · refine op_value fun a w c => ⟨(wanted_plain rfl), _, run_move _ rfl w, (c.new 3 7 (by kernel_rfl) (by kernel_rfl))⟩
          · refine op_value fun a w c => ⟨(wanted_yes rfl (by kernel_rfl) (c.new 4 8 (by kernel_rfl) (by kernel_rfl))), _, run_move _ rfl w, (c.was 0 (by kernel_rfl) rfl)⟩
          · refine op_value fun a w c => ⟨(wanted_yes rfl (by kernel_rfl) (c.new 4 8 (by kernel_rfl) (by kernel_rfl))), _, run_move _ rfl w, (c.was 3 (by kernel_rfl) rfl)⟩
          · refine op_value fun a w c => ⟨(wanted_yes rfl (by kernel_rfl) (c.new 4 8 (by kernel_rfl) (by kernel_rfl))), .pointer (some ⟨b, off + k * 2, none⟩), ?_, rfl⟩
            have e9 : a.eval (.tmp 9) = .slice (some ⟨b, off, none⟩) n cap := (c.new 5 9 (by kernel_rfl) (by kernel_rfl))
            have e10 : a.eval (.tmp 10) = .int .i64 (k : Int) := (c.new 6 10 (by kernel_rfl) (by kernel_rfl))
            generalize a.eval = ρ at e9 e10 ⊢
            simp [execOp, e9, e10, go_sem, i1, i2]
          · refine op_value fun a w c => ⟨(wanted_yes rfl (by kernel_rfl) (c.new 4 8 (by kernel_rfl) (by kernel_rfl))), .pointer (some ⟨b, off + k * 2, none⟩), ?_, rfl⟩
            have e11 : a.eval (.tmp 11) = .pointer (some ⟨b, off + k * 2, none⟩) := (c.new 7 11 (by kernel_rfl) (by kernel_rfl))
            generalize a.eval = ρ at e11 ⊢
            simp [execOp, e11, go_sem]
          · refine op_value fun a w c => ⟨(wanted_yes rfl (by kernel_rfl) (c.new 4 8 (by kernel_rfl) (by kernel_rfl))), .slice A1 n1 cap1, ?_, rfl⟩
            have e12 : a.eval (.tmp 12) = .pointer (some ⟨b, off + k * 2, none⟩) := (c.new 8 12 (by kernel_rfl) (by kernel_rfl))
            have hc := (c.ev.cell (p := ⟨b, off + k * 2, none⟩) hb).trans c1
            generalize a.eval = ρ at e12 ⊢
            simp [execOp, e12, hc, go_sem]
          · refine op_value fun a w c => ⟨(wanted_yes rfl (by kernel_rfl) (c.new 4 8 (by kernel_rfl) (by kernel_rfl))), _, run_move _ rfl w, (c.was 0 (by kernel_rfl) rfl)⟩
          · refine op_value fun a w c => ⟨(wanted_yes rfl (by kernel_rfl) (c.new 4 8 (by kernel_rfl) (by kernel_rfl))), .pointer (some ⟨b, off, none⟩), ?_, rfl⟩
            have e14 : a.eval (.tmp 14) = .slice (some ⟨b, off, none⟩) n cap := (c.new 10 14 (by kernel_rfl) (by kernel_rfl))
            have kc0 : a.eval (.const (.int .i64 0)) = .int .i64 0 := rfl
            generalize a.eval = ρ at e14 kc0 ⊢
            simp [execOp, e14, kc0, go_sem, i5]
          · refine op_value fun a w c => ⟨(wanted_yes rfl (by kernel_rfl) (c.new 4 8 (by kernel_rfl) (by kernel_rfl))), .pointer (some ⟨b, off, none⟩), ?_, rfl⟩
            have e15 : a.eval (.tmp 15) = .pointer (some ⟨b, off, none⟩) := (c.new 11 15 (by kernel_rfl) (by kernel_rfl))
            generalize a.eval = ρ at e15 ⊢
            simp [execOp, e15, go_sem]
          · refine op_value fun a w c => ⟨(wanted_yes rfl (by kernel_rfl) (c.new 4 8 (by kernel_rfl) (by kernel_rfl))), .slice A0 n0 cap0, ?_, rfl⟩
            have e16 : a.eval (.tmp 16) = .pointer (some ⟨b, off, none⟩) := (c.new 12 16 (by kernel_rfl) (by kernel_rfl))
            have hc := (c.ev.cell (p := ⟨b, off, none⟩) hb).trans c0
            generalize a.eval = ρ at e16 ⊢
            simp [execOp, e16, hc, go_sem]
          · refine op_call fun a w c => ⟨(wanted_yes rfl (by kernel_rfl) (c.new 4 8 (by kernel_rfl) (by kernel_rfl))), 29, #[.slice A1 n1 cap1, .slice A0 n0 cap0], ?_, ?_⟩
            · rw [run_call 29 _ _ rfl (by kernel_rfl)]
              have e13 : a.eval (.tmp 13) = .slice A1 n1 cap1 := (c.new 9 13 (by kernel_rfl) (by kernel_rfl))
              have e17 : a.eval (.tmp 17) = .slice A0 n0 cap0 := (c.new 13 17 (by kernel_rfl) (by kernel_rfl))
              simp [e13, e17]
            · refine (HL.out w c.ev).mono ?_
              rintro e w2 ⟨rfl, hE⟩
              exact ⟨_, rfl, hE, rfl⟩
          · refine op_value fun a w c => ⟨(wanted_plain rfl), _, run_pick_true rfl (c.new 4 8 (by kernel_rfl) (by kernel_rfl)) w, (c.new 14 18 (by kernel_rfl) (by kernel_rfl))⟩
        intro s w4 hEr hold hnew
        have f0 : s 0 = .slice (some ⟨b, off, none⟩) n cap := hold 0 (by kernel_rfl)
        have f1 : s 1 = undef := hold 1 (by kernel_rfl)
        have f2 : s 2 = .int .i64 0 := hold 2 (by kernel_rfl)
        have f3 : s 3 = .int .i64 (k : Int) := hold 3 (by kernel_rfl)
        have f22 : s 22 = undef := hold 22 (by kernel_rfl)
        have f4 : s 4 = .int .i64 (k : Int) := hnew 0 4 (by kernel_rfl)
        have f5 : s 5 = .slice (some ⟨b, off, none⟩) n cap := hnew 1 5 (by kernel_rfl)
        have f6 : s 6 = .int .i64 (n : Int) := hnew 2 6 (by kernel_rfl)
        have f7 : s 7 = .bool true := hnew 3 7 (by kernel_rfl)
        have f8 : s 8 = .bool true := hnew 4 8 (by kernel_rfl)
        have f9 : s 9 = .slice (some ⟨b, off, none⟩) n cap := hnew 5 9 (by kernel_rfl)
        have f10 : s 10 = .int .i64 (k : Int) := hnew 6 10 (by kernel_rfl)
        have f11 : s 11 = .pointer (some ⟨b, off + k * 2, none⟩) := hnew 7 11 (by kernel_rfl)
        have f12 : s 12 = .pointer (some ⟨b, off + k * 2, none⟩) := hnew 8 12 (by kernel_rfl)
        have f13 : s 13 = .slice A1 n1 cap1 := hnew 9 13 (by kernel_rfl)
        have f14 : s 14 = .slice (some ⟨b, off, none⟩) n cap := hnew 10 14 (by kernel_rfl)
        have f15 : s 15 = .pointer (some ⟨b, off, none⟩) := hnew 11 15 (by kernel_rfl)
        have f16 : s 16 = .pointer (some ⟨b, off, none⟩) := hnew 12 16 (by kernel_rfl)
        have f17 : s 17 = .slice A0 n0 cap0 := hnew 13 17 (by kernel_rfl)
        have f18 : s 18 = .bool false := hnew 14 18 (by kernel_rfl)
        have f19 : s 19 = .bool false := hnew 15 19 (by kernel_rfl)
        change Exit.then _ _ .normal ⟨#[s 0, s 1, s 2, s 3, s 4, s 5, s 6, s 7, s 8, s 9, s 10, s 11, s 12, s 13, s 14, s 15, s 16, s 17, s 18, s 19, s 20, s 21, s 22], _⟩ _
        simp only [f0, f1, f2, f3, f22, f4, f5, f6, f7, f8, f9, f10, f11, f12, f13, f14, f15, f16, f17, f18, f19]
        clear hold hnew
        go_wp2
        go_ret
        refine ⟨⟨k, rfl, by rw [HN.out]; omega, hk1, HT.out, fun x z hx hz => ?_⟩, hE.trans hEr⟩
        rw [HX0.out] at hz
        rw [HX1.out] at hx
        obtain rfl := Option.some.inj hx
        obtain rfl := Option.some.inj hz
        exact HLS.out
      · go_wp2_with fail
        refine wp_region_slots hmix [fun v _ => v = .int .i64 (k : Int), fun v _ => v = .slice (some ⟨b, off, none⟩) n cap, fun v _ => v = .int .i64 (n : Int), fun v _ => v = .bool true, fun v _ => v = .bool true, fun v _ => v = .slice (some ⟨b, off, none⟩) n cap, fun v _ => v = .int .i64 (k : Int), fun v _ => v = .pointer (some ⟨b, off + k * 2, none⟩), fun v _ => v = .pointer (some ⟨b, off + k * 2, none⟩), fun v _ => v = .slice A1 n1 cap1, fun v _ => v = .slice (some ⟨b, off, none⟩) n cap, fun v _ => v = .pointer (some ⟨b, off, none⟩), fun v _ => v = .pointer (some ⟨b, off, none⟩), fun v _ => v = .slice A0 n0 cap0, fun v _ => v = .bool true, fun v _ => v = .bool true]
          23 rfl (by kernel_rfl) ⟨mono_eq _, mono_eq _, mono_eq _, mono_eq _, mono_eq _, mono_eq _, mono_eq _, mono_eq _, mono_eq _, mono_eq _, mono_eq _, mono_eq _, mono_eq _, mono_eq _, mono_eq _, mono_eq _, trivial⟩ ?_ ?_
        · refine ops_cons 0 ?_ (ops_cons 1 ?_ (ops_cons 2 ?_ (ops_cons 3 ?_ (ops_cons 4 ?_ (ops_cons 5 ?_ (ops_cons 6 ?_ (ops_cons 7 ?_ (ops_cons 8 ?_ (ops_cons 9 ?_ (ops_cons 10 ?_ (ops_cons 11 ?_ (ops_cons 12 ?_ (ops_cons 13 ?_ (ops_cons 14 ?_ (ops_cons 15 ?_ (ops_nil 16))))))))))))))))
          · refine op_value fun a w c => ⟨(wanted_plain rfl), _, run_move _ rfl w, (c.was 3 (by kernel_rfl) rfl)⟩
          · refine op_value fun a w c => ⟨(wanted_plain rfl), _, run_move _ rfl w, (c.was 0 (by kernel_rfl) rfl)⟩
          · refine op_value fun a w c => ⟨(wanted_plain rfl), _, run_len_items rfl ((c.new 1 5 (by kernel_rfl) (by kernel_rfl)) : a.eval (.tmp 5) = .slice (some ⟨b, off, none⟩) n cap) w, rfl⟩
          · refine op_value fun a w c => ⟨(wanted_plain rfl), .bool true, ?_, rfl⟩
            have e4 : a.eval (.tmp 4) = .int .i64 (k : Int) := (c.new 0 4 (by kernel_rfl) (by kernel_rfl))
            have e6 : a.eval (.tmp 6) = .int .i64 (n : Int) := (c.new 2 6 (by kernel_rfl) (by kernel_rfl))
            generalize a.eval = ρ at e4 e6 ⊢
            simp [execOp, e4, e6, go_sem, i2]
          · refine op_value fun a w c => ⟨(wanted_plain rfl), _, run_move _ rfl w, (c.new 3 7 (by kernel_rfl) (by kernel_rfl))⟩
          · refine op_value fun a w c => ⟨(wanted_yes rfl (by kernel_rfl) (c.new 4 8 (by kernel_rfl) (by kernel_rfl))), _, run_move _ rfl w, (c.was 0 (by kernel_rfl) rfl)⟩
          · refine op_value fun a w c => ⟨(wanted_yes rfl (by kernel_rfl) (c.new 4 8 (by kernel_rfl) (by kernel_rfl))), _, run_move _ rfl w, (c.was 3 (by kernel_rfl) rfl)⟩
          · refine op_value fun a w c => ⟨(wanted_yes rfl (by kernel_rfl) (c.new 4 8 (by kernel_rfl) (by kernel_rfl))), .pointer (some ⟨b, off + k * 2, none⟩), ?_, rfl⟩
            have e9 : a.eval (.tmp 9) = .slice (some ⟨b, off, none⟩) n cap := (c.new 5 9 (by kernel_rfl) (by kernel_rfl))
            have e10 : a.eval (.tmp 10) = .int .i64 (k : Int) := (c.new 6 10 (by kernel_rfl) (by kernel_rfl))
            generalize a.eval = ρ at e9 e10 ⊢
            simp [execOp, e9, e10, go_sem, i1, i2]
          · refine op_value fun a w c => ⟨(wanted_yes rfl (by kernel_rfl) (c.new 4 8 (by kernel_rfl) (by kernel_rfl))), .pointer (some ⟨b, off + k * 2, none⟩), ?_, rfl⟩
            have e11 : a.eval (.tmp 11) = .pointer (some ⟨b, off + k * 2, none⟩) := (c.new 7 11 (by kernel_rfl) (by kernel_rfl))
            generalize a.eval = ρ at e11 ⊢
            simp [execOp, e11, go_sem]
          · refine op_value fun a w c => ⟨(wanted_yes rfl (by kernel_rfl) (c.new 4 8 (by kernel_rfl) (by kernel_rfl))), .slice A1 n1 cap1, ?_, rfl⟩
            have e12 : a.eval (.tmp 12) = .pointer (some ⟨b, off + k * 2, none⟩) := (c.new 8 12 (by kernel_rfl) (by kernel_rfl))
            have hc := (c.ev.cell (p := ⟨b, off + k * 2, none⟩) hb).trans c1
            generalize a.eval = ρ at e12 ⊢
            simp [execOp, e12, hc, go_sem]
          · refine op_value fun a w c => ⟨(wanted_yes rfl (by kernel_rfl) (c.new 4 8 (by kernel_rfl) (by kernel_rfl))), _, run_move _ rfl w, (c.was 0 (by kernel_rfl) rfl)⟩
          · refine op_value fun a w c => ⟨(wanted_yes rfl (by kernel_rfl) (c.new 4 8 (by kernel_rfl) (by kernel_rfl))), .pointer (some ⟨b, off, none⟩), ?_, rfl⟩
            have e14 : a.eval (.tmp 14) = .slice (some ⟨b, off, none⟩) n cap := (c.new 10 14 (by kernel_rfl) (by kernel_rfl))
            have kc0 : a.eval (.const (.int .i64 0)) = .int .i64 0 := rfl
            generalize a.eval = ρ at e14 kc0 ⊢
            simp [execOp, e14, kc0, go_sem, i5]
          · refine op_value fun a w c => ⟨(wanted_yes rfl (by kernel_rfl) (c.new 4 8 (by kernel_rfl) (by kernel_rfl))), .pointer (some ⟨b, off, none⟩), ?_, rfl⟩
            have e15 : a.eval (.tmp 15) = .pointer (some ⟨b, off, none⟩) := (c.new 11 15 (by kernel_rfl) (by kernel_rfl))
            generalize a.eval = ρ at e15 ⊢
            simp [execOp, e15, go_sem]
          · refine op_value fun a w c => ⟨(wanted_yes rfl (by kernel_rfl) (c.new 4 8 (by kernel_rfl) (by kernel_rfl))), .slice A0 n0 cap0, ?_, rfl⟩
            have e16 : a.eval (.tmp 16) = .pointer (some ⟨b, off, none⟩) := (c.new 12 16 (by kernel_rfl) (by kernel_rfl))
            have hc := (c.ev.cell (p := ⟨b, off, none⟩) hb).trans c0
            generalize a.eval = ρ at e16 ⊢
            simp [execOp, e16, hc, go_sem]
          · refine op_call fun a w c => ⟨(wanted_yes rfl (by kernel_rfl) (c.new 4 8 (by kernel_rfl) (by kernel_rfl))), 29, #[.slice A1 n1 cap1, .slice A0 n0 cap0], ?_, ?_⟩
            · rw [run_call 29 _ _ rfl (by kernel_rfl)]
              have e13 : a.eval (.tmp 13) = .slice A1 n1 cap1 := (c.new 9 13 (by kernel_rfl) (by kernel_rfl))
              have e17 : a.eval (.tmp 17) = .slice A0 n0 cap0 := (c.new 13 17 (by kernel_rfl) (by kernel_rfl))
              simp [e13, e17]
            · refine (HL.out w c.ev).mono ?_
              rintro e w2 ⟨rfl, hE⟩
              exact ⟨_, rfl, hE, rfl⟩
          · refine op_value fun a w c => ⟨(wanted_plain rfl), _, run_pick_true rfl (c.new 4 8 (by kernel_rfl) (by kernel_rfl)) w, (c.new 14 18 (by kernel_rfl) (by kernel_rfl))⟩
        intro s w4 hEr hold hnew
        have f0 : s 0 = .slice (some ⟨b, off, none⟩) n cap := hold 0 (by kernel_rfl)
        have f1 : s 1 = undef := hold 1 (by kernel_rfl)
        have f2 : s 2 = .int .i64 0 := hold 2 (by kernel_rfl)
        have f3 : s 3 = .int .i64 (k : Int) := hold 3 (by kernel_rfl)
        have f22 : s 22 = undef := hold 22 (by kernel_rfl)
        have f4 : s 4 = .int .i64 (k : Int) := hnew 0 4 (by kernel_rfl)
        have f5 : s 5 = .slice (some ⟨b, off, none⟩) n cap := hnew 1 5 (by kernel_rfl)
        have f6 : s 6 = .int .i64 (n : Int) := hnew 2 6 (by kernel_rfl)
        have f7 : s 7 = .bool true := hnew 3 7 (by kernel_rfl)
        have f8 : s 8 = .bool true := hnew 4 8 (by kernel_rfl)
        have f9 : s 9 = .slice (some ⟨b, off, none⟩) n cap := hnew 5 9 (by kernel_rfl)
        have f10 : s 10 = .int .i64 (k : Int) := hnew 6 10 (by kernel_rfl)
        have f11 : s 11 = .pointer (some ⟨b, off + k * 2, none⟩) := hnew 7 11 (by kernel_rfl)
        have f12 : s 12 = .pointer (some ⟨b, off + k * 2, none⟩) := hnew 8 12 (by kernel_rfl)
        have f13 : s 13 = .slice A1 n1 cap1 := hnew 9 13 (by kernel_rfl)
        have f14 : s 14 = .slice (some ⟨b, off, none⟩) n cap := hnew 10 14 (by kernel_rfl)
        have f15 : s 15 = .pointer (some ⟨b, off, none⟩) := hnew 11 15 (by kernel_rfl)
        have f16 : s 16 = .pointer (some ⟨b, off, none⟩) := hnew 12 16 (by kernel_rfl)
        have f17 : s 17 = .slice A0 n0 cap0 := hnew 13 17 (by kernel_rfl)
        have f18 : s 18 = .bool true := hnew 14 18 (by kernel_rfl)
        have f19 : s 19 = .bool true := hnew 15 19 (by kernel_rfl)
        change Exit.then _ _ .normal ⟨#[s 0, s 1, s 2, s 3, s 4, s 5, s 6, s 7, s 8, s 9, s 10, s 11, s 12, s 13, s 14, s 15, s 16, s 17, s 18, s 19, s 20, s 21, s 22], _⟩ _
        simp only [f0, f1, f2, f3, f22, f4, f5, f6, f7, f8, f9, f10, f11, f12, f13, f14, f15, f16, f17, f18, f19]
        clear hold hnew
        generalize s 20 = u20
        generalize s 21 = u21
        go_wp2
        go_roundw
        case rel =>
          refine ⟨k + 1, by omega, by omega, by go_num, Lib.hid (fun i x z hi hx hz => ?_), hE.trans hEr⟩
          by_cases hij : i < k
          · exact HT.out i x z hij hx hz
          · obtain rfl : i = k := by omega
            rw [HX0.out] at hz
            rw [HX1.out] at hx
            obtain rfl := Option.some.inj hx
            obtain rfl := Option.some.inj hz
            exact HLS.out
        case measure => simp [intOf]; omega
    · obtain rfl : k = n := by omega
      have HF : Hid (Reps Z k) := Lib.hid ⟨by rw [HN.out]; omega, hk1, HT.out, fun x z hx hz => by
        have := (List.getElem?_eq_some_iff.1 hx).1
        rw [HN.out] at this; omega⟩
      have i2 : ¬ (k : Int) < (k : Int) := by omega
      go_wp2_with fail
      go_quiet (fail)
      go_wp2
      go_ret
      exact ⟨⟨k, rfl, HF.out⟩, hE.trans (Ev.drewN _ _)⟩
end Go.Proofs.Ytcenjjoadhfhaaa
