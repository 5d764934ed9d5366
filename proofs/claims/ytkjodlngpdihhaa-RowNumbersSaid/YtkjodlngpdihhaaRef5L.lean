/-
  The document's own Less, Same and Fits (chapter 5).
-/
import Derived.Test.YtkjodlngpdihhaaRef5
namespace Go.Proofs.Ytkjodlngpdihhaa
open Go.RowKit
set_option linter.unusedVariables false

set_option maxRecDepth 100000 in
set_option maxHeartbeats 8000000 in
theorem ref5_less {A B : Option Addr} {n m cap cap' : Nat} {a b : List V} (w : World) (h : Vs w A n cap a) (h' : Vs w B m cap' b) :
    Calls Try.prog 29 #[.slice A n cap, .slice B m cap'] w fun e w' => e = .returned (.bool (lessR a b)) ∧ Ev w w' := by
  have hn := h.le
  have hm := h.max
  have hn' := h'.le
  have hm' := h'.max
  have HL := Lib.hid h.len
  have HM := Lib.hid h'.len
  have HR := Lib.hid (fun w1 (h1 : Vs w1 A n cap a) => ref5_right w1 h1)
  have HR' := Lib.hid (fun w1 (h1 : Vs w1 B m cap' b) => ref5_right w1 h1)
  have hmix : Try.prog.follows .mixedOrders = true := by kernel_rfl
  unfold lessR
  have ho := @rightR_ok a
  have ho' := @rightR_ok b
  generalize rightR a = r at *
  generalize rightR b = r' at *
  cases r
  · go_enter Try.func29, Try.ntmps29
    go_wp2_with (first | ((with_reducible refine (HR.out _ h).mono ?_); rintro x w1 ⟨rfl, hE1⟩))
    go_ret
    exact ⟨rfl, hE1⟩
  · cases r'
    · go_enter Try.func29, Try.ntmps29
      go_wp2_with (first | ((with_reducible refine (HR.out _ h).mono ?_); rintro x w1 ⟨rfl, hE1⟩) | ((with_reducible refine (HR'.out _ (h'.ev hE1)).mono ?_); rintro x w2 ⟨rfl, hE2⟩))
      go_ret
      exact ⟨rfl, hE1.trans hE2⟩
    · simp only [Bool.and_self, if_true]
      have HO := Lib.hid (ho rfl)
      have HO' := Lib.hid (ho' rfl)
      clear ho ho'
      go_enter Try.func29, Try.ntmps29
      go_wp2_with (first | ((with_reducible refine (HR.out _ h).mono ?_); rintro x w1 ⟨rfl, hE1⟩) | ((with_reducible refine (HR'.out _ (h'.ev hE1)).mono ?_); rintro x w2 ⟨rfl, hE2⟩))
      have hE0 := hE1.trans hE2
      go_loopw [5] (fun i wr => ∃ k : Nat, k ≤ n ∧ k ≤ m ∧ i = .int .i64 k ∧ Hid (a.take k = b.take k) ∧ Ev w wr) (fun i _ => n - (intOf i).toNat)
      case atStart => exact ⟨0, Nat.zero_le _, Nat.zero_le _, rfl, Lib.hid (by simp), hE0⟩
      case round =>
        obtain ⟨k, hk, hk', rfl, HT, hE⟩ := hrel
        by_cases ha : k < n
        · have i2 : (k : Int) < (n : Int) := by omega
          by_cases hb : k < m
          · have i3 : (k : Int) < (m : Int) := by omega
            obtain ⟨b1, off, ⟨xk, xn, xs⟩, rfl, hb1, hx, c0, c1, c2⟩ := (h.ev hE).vcell ha
            obtain ⟨b2, off', ⟨yk, yn, ys⟩, rfl, hb2, hy, d0, d1, d2⟩ := (h'.ev hE).vcell hb
            have i1 : (0 : Int) ≤ (k : Int) := by omega
            simp only at c0 c1 c2 d0 d1 d2
            have HX := Lib.hid hx
            have HY := Lib.hid hy
            obtain ⟨x, hlx⟩ : ∃ x, lessV xk xn xs yk yn ys = x := ⟨_, rfl⟩
            obtain ⟨y, hly⟩ : ∃ y, lessV yk yn ys xk xn xs = y := ⟨_, rfl⟩
            have HLX := Lib.hid hlx
            have HLY := Lib.hid hly
            clear hx hy hlx hly
            cases x
            · cases y
              · have HQ : Hid (a.take (k + 1) = b.take (k + 1)) := Lib.hid (by
                  by_cases e : (xk, xn, xs) = (yk, yn, ys)
                  · exact take_step HT.out HX.out (e ▸ HY.out)
                  · have := lessVV_tri (okR_at HO.out HX.out) (okR_at HO'.out HY.out) e
                    rw [show lessVV (xk, xn, xs) (yk, yn, ys) = false from HLX.out, show lessVV (yk, yn, ys) (xk, xn, xs) = false from HLY.out] at this
                    cases this)
                go_wp2_with fail
                refine wp_region_slots hmix [fun v _ => v = .slice (some ⟨b1, off, none⟩) n cap, fun v _ => v = .int .i64 (k : Int), fun v _ => v = .pointer (some ⟨b1, off + k * 3, none⟩), fun v _ => v = vv xk xn xs, fun v _ => v = .slice (some ⟨b2, off', none⟩) m cap', fun v _ => v = .int .i64 (k : Int), fun v _ => v = .pointer (some ⟨b2, off' + k * 3, none⟩), fun v _ => v = vv yk yn ys, fun v _ => v = .bool false]
                  49 rfl (by kernel_rfl) ⟨mono_eq _, mono_eq _, mono_eq _, mono_eq _, mono_eq _, mono_eq _, mono_eq _, mono_eq _, mono_eq _, trivial⟩ ?_ ?_
                · refine ops_cons 0 ?_ (ops_cons 1 ?_ (ops_cons 2 ?_ (ops_cons 3 ?_ (ops_cons 4 ?_ (ops_cons 5 ?_ (ops_cons 6 ?_ (ops_cons 7 ?_ (ops_cons 8 ?_ (ops_nil 9)))))))))
                  · refine op_value fun a w c => ⟨(wanted_plain rfl), _, run_move _ rfl w, (c.was 0 (by kernel_rfl) rfl)⟩
                  · refine op_value fun a w c => ⟨(wanted_plain rfl), _, run_move _ rfl w, (c.was 5 (by kernel_rfl) rfl)⟩
                  · refine op_value fun a w c => ⟨(wanted_plain rfl), .pointer (some ⟨b1, off + k * 3, none⟩), ?_, rfl⟩
                    have e26 : a.eval (.tmp 26) = .slice (some ⟨b1, off, none⟩) n cap := (c.new 0 26 (by kernel_rfl) (by kernel_rfl))
                    have e27 : a.eval (.tmp 27) = .int .i64 (k : Int) := (c.new 1 27 (by kernel_rfl) (by kernel_rfl))
                    generalize a.eval = ρ at e26 e27 ⊢
                    simp [execOp, e26, e27, go_sem, i1, i2]
                  · refine op_value fun a w c => ⟨(wanted_plain rfl), _, run_load_elem rfl ((c.new 2 28 (by kernel_rfl) (by kernel_rfl)) : a.eval (.tmp 28) = .pointer (some ⟨b1, off + k * 3, none⟩)) ((c.ev.cell (p := ⟨_, _, none⟩) hb1).trans c0) ((c.ev.cell (p := ⟨_, _, none⟩) hb1).trans c1) ((c.ev.cell (p := ⟨_, _, none⟩) hb1).trans c2), rfl⟩
                  · refine op_value fun a w c => ⟨(wanted_plain rfl), _, run_move _ rfl w, (c.was 1 (by kernel_rfl) rfl)⟩
                  · refine op_value fun a w c => ⟨(wanted_plain rfl), _, run_move _ rfl w, (c.was 5 (by kernel_rfl) rfl)⟩
                  · refine op_value fun a w c => ⟨(wanted_plain rfl), .pointer (some ⟨b2, off' + k * 3, none⟩), ?_, rfl⟩
                    have e30 : a.eval (.tmp 30) = .slice (some ⟨b2, off', none⟩) m cap' := (c.new 4 30 (by kernel_rfl) (by kernel_rfl))
                    have e31 : a.eval (.tmp 31) = .int .i64 (k : Int) := (c.new 5 31 (by kernel_rfl) (by kernel_rfl))
                    generalize a.eval = ρ at e30 e31 ⊢
                    simp [execOp, e30, e31, go_sem, i1, i3]
                  · refine op_value fun a w c => ⟨(wanted_plain rfl), _, run_load_elem rfl ((c.new 6 32 (by kernel_rfl) (by kernel_rfl)) : a.eval (.tmp 32) = .pointer (some ⟨b2, off' + k * 3, none⟩)) ((c.ev.cell (p := ⟨_, _, none⟩) hb2).trans d0) ((c.ev.cell (p := ⟨_, _, none⟩) hb2).trans d1) ((c.ev.cell (p := ⟨_, _, none⟩) hb2).trans d2), rfl⟩
                  · refine op_call fun a w c => ⟨(wanted_plain rfl), 54, #[vv xk xn xs, vv yk yn ys], ?_, ?_⟩
                    · rw [run_call 54 _ _ rfl (by kernel_rfl)]
                      have e29 : a.eval (.tmp 29) = vv xk xn xs := (c.new 3 29 (by kernel_rfl) (by kernel_rfl))
                      have e33 : a.eval (.tmp 33) = vv yk yn ys := (c.new 7 33 (by kernel_rfl) (by kernel_rfl))
                      simp [e29, e33]
                    · refine (refr_less _ _ _ _ _ _ w).mono ?_
                      rintro e w2 ⟨rfl, hE⟩
                      exact ⟨_, rfl, hE, congrArg Value.bool HLX.out⟩
                intro s w4 hEr hold hnew
                have f0 : s 0 = .slice (some ⟨b1, off, none⟩) n cap := hold 0 (by kernel_rfl)
                have f1 : s 1 = .slice (some ⟨b2, off', none⟩) m cap' := hold 1 (by kernel_rfl)
                have f2 : s 2 = undef := hold 2 (by kernel_rfl)
                have f3 : s 3 = undef := hold 3 (by kernel_rfl)
                have f5 : s 5 = .int .i64 (k : Int) := hold 5 (by kernel_rfl)
                have f6 : s 6 = .slice (some ⟨b1, off, none⟩) n cap := hold 6 (by kernel_rfl)
                have f7 : s 7 = .bool true := hold 7 (by kernel_rfl)
                have f8 : s 8 = .bool false := hold 8 (by kernel_rfl)
                have f9 : s 9 = .bool false := hold 9 (by kernel_rfl)
                have f10 : s 10 = .slice (some ⟨b2, off', none⟩) m cap' := hold 10 (by kernel_rfl)
                have f11 : s 11 = .bool true := hold 11 (by kernel_rfl)
                have f12 : s 12 = .bool false := hold 12 (by kernel_rfl)
                have f13 : s 13 = .bool false := hold 13 (by kernel_rfl)
                have f44 : s 44 = undef := hold 44 (by kernel_rfl)
                have f45 : s 45 = undef := hold 45 (by kernel_rfl)
                have f46 : s 46 = undef := hold 46 (by kernel_rfl)
                have f47 : s 47 = undef := hold 47 (by kernel_rfl)
                have f48 : s 48 = undef := hold 48 (by kernel_rfl)
                have f26 : s 26 = .slice (some ⟨b1, off, none⟩) n cap := hnew 0 26 (by kernel_rfl)
                have f27 : s 27 = .int .i64 (k : Int) := hnew 1 27 (by kernel_rfl)
                have f28 : s 28 = .pointer (some ⟨b1, off + k * 3, none⟩) := hnew 2 28 (by kernel_rfl)
                have f29 : s 29 = vv xk xn xs := hnew 3 29 (by kernel_rfl)
                have f30 : s 30 = .slice (some ⟨b2, off', none⟩) m cap' := hnew 4 30 (by kernel_rfl)
                have f31 : s 31 = .int .i64 (k : Int) := hnew 5 31 (by kernel_rfl)
                have f32 : s 32 = .pointer (some ⟨b2, off' + k * 3, none⟩) := hnew 6 32 (by kernel_rfl)
                have f33 : s 33 = vv yk yn ys := hnew 7 33 (by kernel_rfl)
                have f34 : s 34 = .bool false := hnew 8 34 (by kernel_rfl)
                change Exit.then _ _ .normal ⟨#[s 0, s 1, s 2, s 3, s 4, s 5, s 6, s 7, s 8, s 9, s 10, s 11, s 12, s 13, s 14, s 15, s 16, s 17, s 18, s 19, s 20, s 21, s 22, s 23, s 24, s 25, s 26, s 27, s 28, s 29, s 30, s 31, s 32, s 33, s 34, s 35, s 36, s 37, s 38, s 39, s 40, s 41, s 42, s 43, s 44, s 45, s 46, s 47, s 48], _⟩ _
                simp only [f0, f1, f2, f3, f5, f6, f7, f8, f9, f10, f11, f12, f13, f44, f45, f46, f47, f48, f26, f27, f28, f29, f30, f31, f32, f33, f34]
                clear hold hnew
                generalize s 4 = u4
                generalize s 14 = u14
                generalize s 15 = u15
                generalize s 16 = u16
                generalize s 17 = u17
                generalize s 18 = u18
                generalize s 19 = u19
                generalize s 20 = u20
                generalize s 21 = u21
                generalize s 22 = u22
                generalize s 23 = u23
                generalize s 24 = u24
                generalize s 25 = u25
                generalize s 35 = u35
                generalize s 36 = u36
                generalize s 37 = u37
                generalize s 38 = u38
                generalize s 39 = u39
                generalize s 40 = u40
                generalize s 41 = u41
                generalize s 42 = u42
                generalize s 43 = u43
                clear f26 f27 f28 f29 f30 f31 f32 f33
                have hE4 := hE.trans hEr
                replace c0 := (hEr.cell (p := ⟨_, _, none⟩) hb1).trans c0
                replace c1 := (hEr.cell (p := ⟨_, _, none⟩) hb1).trans c1
                replace c2 := (hEr.cell (p := ⟨_, _, none⟩) hb1).trans c2
                replace d0 := (hEr.cell (p := ⟨_, _, none⟩) hb2).trans d0
                replace d1 := (hEr.cell (p := ⟨_, _, none⟩) hb2).trans d1
                replace d2 := (hEr.cell (p := ⟨_, _, none⟩) hb2).trans d2
                replace hb1 := Nat.lt_of_lt_of_le hb1 hEr.size
                replace hb2 := Nat.lt_of_lt_of_le hb2 hEr.size
                go_wp2_with fail
                refine wp_region_slots hmix [fun v _ => v = .slice (some ⟨b2, off', none⟩) m cap', fun v _ => v = .int .i64 (k : Int), fun v _ => v = .pointer (some ⟨b2, off' + k * 3, none⟩), fun v _ => v = vv yk yn ys, fun v _ => v = .slice (some ⟨b1, off, none⟩) n cap, fun v _ => v = .int .i64 (k : Int), fun v _ => v = .pointer (some ⟨b1, off + k * 3, none⟩), fun v _ => v = vv xk xn xs, fun v _ => v = .bool false]
                  49 rfl (by kernel_rfl) ⟨mono_eq _, mono_eq _, mono_eq _, mono_eq _, mono_eq _, mono_eq _, mono_eq _, mono_eq _, mono_eq _, trivial⟩ ?_ ?_
                · refine ops_cons 0 ?_ (ops_cons 1 ?_ (ops_cons 2 ?_ (ops_cons 3 ?_ (ops_cons 4 ?_ (ops_cons 5 ?_ (ops_cons 6 ?_ (ops_cons 7 ?_ (ops_cons 8 ?_ (ops_nil 9)))))))))
                  · refine op_value fun a w c => ⟨(wanted_plain rfl), _, run_move _ rfl w, (c.was 1 (by kernel_rfl) rfl)⟩
                  · refine op_value fun a w c => ⟨(wanted_plain rfl), _, run_move _ rfl w, (c.was 5 (by kernel_rfl) rfl)⟩
                  · refine op_value fun a w c => ⟨(wanted_plain rfl), .pointer (some ⟨b2, off' + k * 3, none⟩), ?_, rfl⟩
                    have e35 : a.eval (.tmp 35) = .slice (some ⟨b2, off', none⟩) m cap' := (c.new 0 35 (by kernel_rfl) (by kernel_rfl))
                    have e36 : a.eval (.tmp 36) = .int .i64 (k : Int) := (c.new 1 36 (by kernel_rfl) (by kernel_rfl))
                    generalize a.eval = ρ at e35 e36 ⊢
                    simp [execOp, e35, e36, go_sem, i1, i3]
                  · refine op_value fun a w c => ⟨(wanted_plain rfl), _, run_load_elem rfl ((c.new 2 37 (by kernel_rfl) (by kernel_rfl)) : a.eval (.tmp 37) = .pointer (some ⟨b2, off' + k * 3, none⟩)) ((c.ev.cell (p := ⟨_, _, none⟩) hb2).trans d0) ((c.ev.cell (p := ⟨_, _, none⟩) hb2).trans d1) ((c.ev.cell (p := ⟨_, _, none⟩) hb2).trans d2), rfl⟩
                  · refine op_value fun a w c => ⟨(wanted_plain rfl), _, run_move _ rfl w, (c.was 0 (by kernel_rfl) rfl)⟩
                  · refine op_value fun a w c => ⟨(wanted_plain rfl), _, run_move _ rfl w, (c.was 5 (by kernel_rfl) rfl)⟩
                  · refine op_value fun a w c => ⟨(wanted_plain rfl), .pointer (some ⟨b1, off + k * 3, none⟩), ?_, rfl⟩
                    have e39 : a.eval (.tmp 39) = .slice (some ⟨b1, off, none⟩) n cap := (c.new 4 39 (by kernel_rfl) (by kernel_rfl))
                    have e40 : a.eval (.tmp 40) = .int .i64 (k : Int) := (c.new 5 40 (by kernel_rfl) (by kernel_rfl))
                    generalize a.eval = ρ at e39 e40 ⊢
                    simp [execOp, e39, e40, go_sem, i1, i2]
                  · refine op_value fun a w c => ⟨(wanted_plain rfl), _, run_load_elem rfl ((c.new 6 41 (by kernel_rfl) (by kernel_rfl)) : a.eval (.tmp 41) = .pointer (some ⟨b1, off + k * 3, none⟩)) ((c.ev.cell (p := ⟨_, _, none⟩) hb1).trans c0) ((c.ev.cell (p := ⟨_, _, none⟩) hb1).trans c1) ((c.ev.cell (p := ⟨_, _, none⟩) hb1).trans c2), rfl⟩
                  · refine op_call fun a w c => ⟨(wanted_plain rfl), 54, #[vv yk yn ys, vv xk xn xs], ?_, ?_⟩
                    · rw [run_call 54 _ _ rfl (by kernel_rfl)]
                      have e38 : a.eval (.tmp 38) = vv yk yn ys := (c.new 3 38 (by kernel_rfl) (by kernel_rfl))
                      have e42 : a.eval (.tmp 42) = vv xk xn xs := (c.new 7 42 (by kernel_rfl) (by kernel_rfl))
                      simp [e38, e42]
                    · refine (refr_less _ _ _ _ _ _ w).mono ?_
                      rintro e w2 ⟨rfl, hE⟩
                      exact ⟨_, rfl, hE, congrArg Value.bool HLY.out⟩
                intro s w5 hEs hold hnew
                have f0 : s 0 = .slice (some ⟨b1, off, none⟩) n cap := hold 0 (by kernel_rfl)
                have f1 : s 1 = .slice (some ⟨b2, off', none⟩) m cap' := hold 1 (by kernel_rfl)
                have f2 : s 2 = undef := hold 2 (by kernel_rfl)
                have f3 : s 3 = undef := hold 3 (by kernel_rfl)
                have f5 : s 5 = .int .i64 (k : Int) := hold 5 (by kernel_rfl)
                have f6 : s 6 = .slice (some ⟨b1, off, none⟩) n cap := hold 6 (by kernel_rfl)
                have f7 : s 7 = .bool true := hold 7 (by kernel_rfl)
                have f8 : s 8 = .bool false := hold 8 (by kernel_rfl)
                have f9 : s 9 = .bool false := hold 9 (by kernel_rfl)
                have f10 : s 10 = .slice (some ⟨b2, off', none⟩) m cap' := hold 10 (by kernel_rfl)
                have f11 : s 11 = .bool true := hold 11 (by kernel_rfl)
                have f12 : s 12 = .bool false := hold 12 (by kernel_rfl)
                have f13 : s 13 = .bool false := hold 13 (by kernel_rfl)
                have f44 : s 44 = undef := hold 44 (by kernel_rfl)
                have f45 : s 45 = undef := hold 45 (by kernel_rfl)
                have f46 : s 46 = undef := hold 46 (by kernel_rfl)
                have f47 : s 47 = undef := hold 47 (by kernel_rfl)
                have f48 : s 48 = undef := hold 48 (by kernel_rfl)
                have f35 : s 35 = .slice (some ⟨b2, off', none⟩) m cap' := hnew 0 35 (by kernel_rfl)
                have f36 : s 36 = .int .i64 (k : Int) := hnew 1 36 (by kernel_rfl)
                have f37 : s 37 = .pointer (some ⟨b2, off' + k * 3, none⟩) := hnew 2 37 (by kernel_rfl)
                have f38 : s 38 = vv yk yn ys := hnew 3 38 (by kernel_rfl)
                have f39 : s 39 = .slice (some ⟨b1, off, none⟩) n cap := hnew 4 39 (by kernel_rfl)
                have f40 : s 40 = .int .i64 (k : Int) := hnew 5 40 (by kernel_rfl)
                have f41 : s 41 = .pointer (some ⟨b1, off + k * 3, none⟩) := hnew 6 41 (by kernel_rfl)
                have f42 : s 42 = vv xk xn xs := hnew 7 42 (by kernel_rfl)
                have f43 : s 43 = .bool false := hnew 8 43 (by kernel_rfl)
                change Exit.then _ _ .normal ⟨#[s 0, s 1, s 2, s 3, s 4, s 5, s 6, s 7, s 8, s 9, s 10, s 11, s 12, s 13, s 14, s 15, s 16, s 17, s 18, s 19, s 20, s 21, s 22, s 23, s 24, s 25, s 26, s 27, s 28, s 29, s 30, s 31, s 32, s 33, s 34, s 35, s 36, s 37, s 38, s 39, s 40, s 41, s 42, s 43, s 44, s 45, s 46, s 47, s 48], _⟩ _
                simp only [f0, f1, f2, f3, f5, f6, f7, f8, f9, f10, f11, f12, f13, f44, f45, f46, f47, f48, f35, f36, f37, f38, f39, f40, f41, f42, f43]
                clear hold hnew
                generalize s 4 = u4
                generalize s 14 = u14
                generalize s 15 = u15
                generalize s 16 = u16
                generalize s 17 = u17
                generalize s 18 = u18
                generalize s 19 = u19
                generalize s 20 = u20
                generalize s 21 = u21
                generalize s 22 = u22
                generalize s 23 = u23
                generalize s 24 = u24
                generalize s 25 = u25
                generalize s 26 = u26
                generalize s 27 = u27
                generalize s 28 = u28
                generalize s 29 = u29
                generalize s 30 = u30
                generalize s 31 = u31
                generalize s 32 = u32
                generalize s 33 = u33
                generalize s 34 = u34
                go_wp2
                go_roundw
                case rel => exact ⟨k + 1, by omega, by omega, by go_num, HQ, hE4.trans hEs⟩
                case measure => simp [intOf]; omega
              · have HF : Hid (lessL a b = false) := Lib.hid (by
                  rw [lessL_at HT.out HX.out HY.out (fun e => by have h1 := HLY.out; rw [show lessV yk yn ys xk xn xs = lessVV (yk, yn, ys) (xk, xn, xs) from rfl, e, lessVV_self] at h1; cases h1)]
                  exact HLX.out)
                go_wp2_with fail
                refine wp_region_slots hmix [fun v _ => v = .slice (some ⟨b1, off, none⟩) n cap, fun v _ => v = .int .i64 (k : Int), fun v _ => v = .pointer (some ⟨b1, off + k * 3, none⟩), fun v _ => v = vv xk xn xs, fun v _ => v = .slice (some ⟨b2, off', none⟩) m cap', fun v _ => v = .int .i64 (k : Int), fun v _ => v = .pointer (some ⟨b2, off' + k * 3, none⟩), fun v _ => v = vv yk yn ys, fun v _ => v = .bool false]
                  49 rfl (by kernel_rfl) ⟨mono_eq _, mono_eq _, mono_eq _, mono_eq _, mono_eq _, mono_eq _, mono_eq _, mono_eq _, mono_eq _, trivial⟩ ?_ ?_
                · refine ops_cons 0 ?_ (ops_cons 1 ?_ (ops_cons 2 ?_ (ops_cons 3 ?_ (ops_cons 4 ?_ (ops_cons 5 ?_ (ops_cons 6 ?_ (ops_cons 7 ?_ (ops_cons 8 ?_ (ops_nil 9)))))))))
                  · refine op_value fun a w c => ⟨(wanted_plain rfl), _, run_move _ rfl w, (c.was 0 (by kernel_rfl) rfl)⟩
                  · refine op_value fun a w c => ⟨(wanted_plain rfl), _, run_move _ rfl w, (c.was 5 (by kernel_rfl) rfl)⟩
                  · refine op_value fun a w c => ⟨(wanted_plain rfl), .pointer (some ⟨b1, off + k * 3, none⟩), ?_, rfl⟩
                    have e26 : a.eval (.tmp 26) = .slice (some ⟨b1, off, none⟩) n cap := (c.new 0 26 (by kernel_rfl) (by kernel_rfl))
                    have e27 : a.eval (.tmp 27) = .int .i64 (k : Int) := (c.new 1 27 (by kernel_rfl) (by kernel_rfl))
                    generalize a.eval = ρ at e26 e27 ⊢
                    simp [execOp, e26, e27, go_sem, i1, i2]
                  · refine op_value fun a w c => ⟨(wanted_plain rfl), _, run_load_elem rfl ((c.new 2 28 (by kernel_rfl) (by kernel_rfl)) : a.eval (.tmp 28) = .pointer (some ⟨b1, off + k * 3, none⟩)) ((c.ev.cell (p := ⟨_, _, none⟩) hb1).trans c0) ((c.ev.cell (p := ⟨_, _, none⟩) hb1).trans c1) ((c.ev.cell (p := ⟨_, _, none⟩) hb1).trans c2), rfl⟩
                  · refine op_value fun a w c => ⟨(wanted_plain rfl), _, run_move _ rfl w, (c.was 1 (by kernel_rfl) rfl)⟩
                  · refine op_value fun a w c => ⟨(wanted_plain rfl), _, run_move _ rfl w, (c.was 5 (by kernel_rfl) rfl)⟩
                  · refine op_value fun a w c => ⟨(wanted_plain rfl), .pointer (some ⟨b2, off' + k * 3, none⟩), ?_, rfl⟩
                    have e30 : a.eval (.tmp 30) = .slice (some ⟨b2, off', none⟩) m cap' := (c.new 4 30 (by kernel_rfl) (by kernel_rfl))
                    have e31 : a.eval (.tmp 31) = .int .i64 (k : Int) := (c.new 5 31 (by kernel_rfl) (by kernel_rfl))
                    generalize a.eval = ρ at e30 e31 ⊢
                    simp [execOp, e30, e31, go_sem, i1, i3]
                  · refine op_value fun a w c => ⟨(wanted_plain rfl), _, run_load_elem rfl ((c.new 6 32 (by kernel_rfl) (by kernel_rfl)) : a.eval (.tmp 32) = .pointer (some ⟨b2, off' + k * 3, none⟩)) ((c.ev.cell (p := ⟨_, _, none⟩) hb2).trans d0) ((c.ev.cell (p := ⟨_, _, none⟩) hb2).trans d1) ((c.ev.cell (p := ⟨_, _, none⟩) hb2).trans d2), rfl⟩
                  · refine op_call fun a w c => ⟨(wanted_plain rfl), 54, #[vv xk xn xs, vv yk yn ys], ?_, ?_⟩
                    · rw [run_call 54 _ _ rfl (by kernel_rfl)]
                      have e29 : a.eval (.tmp 29) = vv xk xn xs := (c.new 3 29 (by kernel_rfl) (by kernel_rfl))
                      have e33 : a.eval (.tmp 33) = vv yk yn ys := (c.new 7 33 (by kernel_rfl) (by kernel_rfl))
                      simp [e29, e33]
                    · refine (refr_less _ _ _ _ _ _ w).mono ?_
                      rintro e w2 ⟨rfl, hE⟩
                      exact ⟨_, rfl, hE, congrArg Value.bool HLX.out⟩
                intro s w4 hEr hold hnew
                have f0 : s 0 = .slice (some ⟨b1, off, none⟩) n cap := hold 0 (by kernel_rfl)
                have f1 : s 1 = .slice (some ⟨b2, off', none⟩) m cap' := hold 1 (by kernel_rfl)
                have f2 : s 2 = undef := hold 2 (by kernel_rfl)
                have f3 : s 3 = undef := hold 3 (by kernel_rfl)
                have f5 : s 5 = .int .i64 (k : Int) := hold 5 (by kernel_rfl)
                have f6 : s 6 = .slice (some ⟨b1, off, none⟩) n cap := hold 6 (by kernel_rfl)
                have f7 : s 7 = .bool true := hold 7 (by kernel_rfl)
                have f8 : s 8 = .bool false := hold 8 (by kernel_rfl)
                have f9 : s 9 = .bool false := hold 9 (by kernel_rfl)
                have f10 : s 10 = .slice (some ⟨b2, off', none⟩) m cap' := hold 10 (by kernel_rfl)
                have f11 : s 11 = .bool true := hold 11 (by kernel_rfl)
                have f12 : s 12 = .bool false := hold 12 (by kernel_rfl)
                have f13 : s 13 = .bool false := hold 13 (by kernel_rfl)
                have f44 : s 44 = undef := hold 44 (by kernel_rfl)
                have f45 : s 45 = undef := hold 45 (by kernel_rfl)
                have f46 : s 46 = undef := hold 46 (by kernel_rfl)
                have f47 : s 47 = undef := hold 47 (by kernel_rfl)
                have f48 : s 48 = undef := hold 48 (by kernel_rfl)
                have f26 : s 26 = .slice (some ⟨b1, off, none⟩) n cap := hnew 0 26 (by kernel_rfl)
                have f27 : s 27 = .int .i64 (k : Int) := hnew 1 27 (by kernel_rfl)
                have f28 : s 28 = .pointer (some ⟨b1, off + k * 3, none⟩) := hnew 2 28 (by kernel_rfl)
                have f29 : s 29 = vv xk xn xs := hnew 3 29 (by kernel_rfl)
                have f30 : s 30 = .slice (some ⟨b2, off', none⟩) m cap' := hnew 4 30 (by kernel_rfl)
                have f31 : s 31 = .int .i64 (k : Int) := hnew 5 31 (by kernel_rfl)
                have f32 : s 32 = .pointer (some ⟨b2, off' + k * 3, none⟩) := hnew 6 32 (by kernel_rfl)
                have f33 : s 33 = vv yk yn ys := hnew 7 33 (by kernel_rfl)
                have f34 : s 34 = .bool false := hnew 8 34 (by kernel_rfl)
                change Exit.then _ _ .normal ⟨#[s 0, s 1, s 2, s 3, s 4, s 5, s 6, s 7, s 8, s 9, s 10, s 11, s 12, s 13, s 14, s 15, s 16, s 17, s 18, s 19, s 20, s 21, s 22, s 23, s 24, s 25, s 26, s 27, s 28, s 29, s 30, s 31, s 32, s 33, s 34, s 35, s 36, s 37, s 38, s 39, s 40, s 41, s 42, s 43, s 44, s 45, s 46, s 47, s 48], _⟩ _
                simp only [f0, f1, f2, f3, f5, f6, f7, f8, f9, f10, f11, f12, f13, f44, f45, f46, f47, f48, f26, f27, f28, f29, f30, f31, f32, f33, f34]
                clear hold hnew
                generalize s 4 = u4
                generalize s 14 = u14
                generalize s 15 = u15
                generalize s 16 = u16
                generalize s 17 = u17
                generalize s 18 = u18
                generalize s 19 = u19
                generalize s 20 = u20
                generalize s 21 = u21
                generalize s 22 = u22
                generalize s 23 = u23
                generalize s 24 = u24
                generalize s 25 = u25
                generalize s 35 = u35
                generalize s 36 = u36
                generalize s 37 = u37
                generalize s 38 = u38
                generalize s 39 = u39
                generalize s 40 = u40
                generalize s 41 = u41
                generalize s 42 = u42
                generalize s 43 = u43
                clear f26 f27 f28 f29 f30 f31 f32 f33
                have hE4 := hE.trans hEr
                replace c0 := (hEr.cell (p := ⟨_, _, none⟩) hb1).trans c0
                replace c1 := (hEr.cell (p := ⟨_, _, none⟩) hb1).trans c1
                replace c2 := (hEr.cell (p := ⟨_, _, none⟩) hb1).trans c2
                replace d0 := (hEr.cell (p := ⟨_, _, none⟩) hb2).trans d0
                replace d1 := (hEr.cell (p := ⟨_, _, none⟩) hb2).trans d1
                replace d2 := (hEr.cell (p := ⟨_, _, none⟩) hb2).trans d2
                replace hb1 := Nat.lt_of_lt_of_le hb1 hEr.size
                replace hb2 := Nat.lt_of_lt_of_le hb2 hEr.size
                go_wp2_with fail
                refine wp_region_slots hmix [fun v _ => v = .slice (some ⟨b2, off', none⟩) m cap', fun v _ => v = .int .i64 (k : Int), fun v _ => v = .pointer (some ⟨b2, off' + k * 3, none⟩), fun v _ => v = vv yk yn ys, fun v _ => v = .slice (some ⟨b1, off, none⟩) n cap, fun v _ => v = .int .i64 (k : Int), fun v _ => v = .pointer (some ⟨b1, off + k * 3, none⟩), fun v _ => v = vv xk xn xs, fun v _ => v = .bool true]
                  49 rfl (by kernel_rfl) ⟨mono_eq _, mono_eq _, mono_eq _, mono_eq _, mono_eq _, mono_eq _, mono_eq _, mono_eq _, mono_eq _, trivial⟩ ?_ ?_
                · refine ops_cons 0 ?_ (ops_cons 1 ?_ (ops_cons 2 ?_ (ops_cons 3 ?_ (ops_cons 4 ?_ (ops_cons 5 ?_ (ops_cons 6 ?_ (ops_cons 7 ?_ (ops_cons 8 ?_ (ops_nil 9)))))))))
                  · refine op_value fun a w c => ⟨(wanted_plain rfl), _, run_move _ rfl w, (c.was 1 (by kernel_rfl) rfl)⟩
                  · refine op_value fun a w c => ⟨(wanted_plain rfl), _, run_move _ rfl w, (c.was 5 (by kernel_rfl) rfl)⟩
                  · refine op_value fun a w c => ⟨(wanted_plain rfl), .pointer (some ⟨b2, off' + k * 3, none⟩), ?_, rfl⟩
                    have e35 : a.eval (.tmp 35) = .slice (some ⟨b2, off', none⟩) m cap' := (c.new 0 35 (by kernel_rfl) (by kernel_rfl))
                    have e36 : a.eval (.tmp 36) = .int .i64 (k : Int) := (c.new 1 36 (by kernel_rfl) (by kernel_rfl))
                    generalize a.eval = ρ at e35 e36 ⊢
                    simp [execOp, e35, e36, go_sem, i1, i3]
                  · refine op_value fun a w c => ⟨(wanted_plain rfl), _, run_load_elem rfl ((c.new 2 37 (by kernel_rfl) (by kernel_rfl)) : a.eval (.tmp 37) = .pointer (some ⟨b2, off' + k * 3, none⟩)) ((c.ev.cell (p := ⟨_, _, none⟩) hb2).trans d0) ((c.ev.cell (p := ⟨_, _, none⟩) hb2).trans d1) ((c.ev.cell (p := ⟨_, _, none⟩) hb2).trans d2), rfl⟩
                  · refine op_value fun a w c => ⟨(wanted_plain rfl), _, run_move _ rfl w, (c.was 0 (by kernel_rfl) rfl)⟩
                  · refine op_value fun a w c => ⟨(wanted_plain rfl), _, run_move _ rfl w, (c.was 5 (by kernel_rfl) rfl)⟩
                  · refine op_value fun a w c => ⟨(wanted_plain rfl), .pointer (some ⟨b1, off + k * 3, none⟩), ?_, rfl⟩
                    have e39 : a.eval (.tmp 39) = .slice (some ⟨b1, off, none⟩) n cap := (c.new 4 39 (by kernel_rfl) (by kernel_rfl))
                    have e40 : a.eval (.tmp 40) = .int .i64 (k : Int) := (c.new 5 40 (by kernel_rfl) (by kernel_rfl))
                    generalize a.eval = ρ at e39 e40 ⊢
                    simp [execOp, e39, e40, go_sem, i1, i2]
                  · refine op_value fun a w c => ⟨(wanted_plain rfl), _, run_load_elem rfl ((c.new 6 41 (by kernel_rfl) (by kernel_rfl)) : a.eval (.tmp 41) = .pointer (some ⟨b1, off + k * 3, none⟩)) ((c.ev.cell (p := ⟨_, _, none⟩) hb1).trans c0) ((c.ev.cell (p := ⟨_, _, none⟩) hb1).trans c1) ((c.ev.cell (p := ⟨_, _, none⟩) hb1).trans c2), rfl⟩
                  · refine op_call fun a w c => ⟨(wanted_plain rfl), 54, #[vv yk yn ys, vv xk xn xs], ?_, ?_⟩
                    · rw [run_call 54 _ _ rfl (by kernel_rfl)]
                      have e38 : a.eval (.tmp 38) = vv yk yn ys := (c.new 3 38 (by kernel_rfl) (by kernel_rfl))
                      have e42 : a.eval (.tmp 42) = vv xk xn xs := (c.new 7 42 (by kernel_rfl) (by kernel_rfl))
                      simp [e38, e42]
                    · refine (refr_less _ _ _ _ _ _ w).mono ?_
                      rintro e w2 ⟨rfl, hE⟩
                      exact ⟨_, rfl, hE, congrArg Value.bool HLY.out⟩
                intro s w5 hEs hold hnew
                have f0 : s 0 = .slice (some ⟨b1, off, none⟩) n cap := hold 0 (by kernel_rfl)
                have f1 : s 1 = .slice (some ⟨b2, off', none⟩) m cap' := hold 1 (by kernel_rfl)
                have f2 : s 2 = undef := hold 2 (by kernel_rfl)
                have f3 : s 3 = undef := hold 3 (by kernel_rfl)
                have f5 : s 5 = .int .i64 (k : Int) := hold 5 (by kernel_rfl)
                have f6 : s 6 = .slice (some ⟨b1, off, none⟩) n cap := hold 6 (by kernel_rfl)
                have f7 : s 7 = .bool true := hold 7 (by kernel_rfl)
                have f8 : s 8 = .bool false := hold 8 (by kernel_rfl)
                have f9 : s 9 = .bool false := hold 9 (by kernel_rfl)
                have f10 : s 10 = .slice (some ⟨b2, off', none⟩) m cap' := hold 10 (by kernel_rfl)
                have f11 : s 11 = .bool true := hold 11 (by kernel_rfl)
                have f12 : s 12 = .bool false := hold 12 (by kernel_rfl)
                have f13 : s 13 = .bool false := hold 13 (by kernel_rfl)
                have f44 : s 44 = undef := hold 44 (by kernel_rfl)
                have f45 : s 45 = undef := hold 45 (by kernel_rfl)
                have f46 : s 46 = undef := hold 46 (by kernel_rfl)
                have f47 : s 47 = undef := hold 47 (by kernel_rfl)
                have f48 : s 48 = undef := hold 48 (by kernel_rfl)
                have f35 : s 35 = .slice (some ⟨b2, off', none⟩) m cap' := hnew 0 35 (by kernel_rfl)
                have f36 : s 36 = .int .i64 (k : Int) := hnew 1 36 (by kernel_rfl)
                have f37 : s 37 = .pointer (some ⟨b2, off' + k * 3, none⟩) := hnew 2 37 (by kernel_rfl)
                have f38 : s 38 = vv yk yn ys := hnew 3 38 (by kernel_rfl)
                have f39 : s 39 = .slice (some ⟨b1, off, none⟩) n cap := hnew 4 39 (by kernel_rfl)
                have f40 : s 40 = .int .i64 (k : Int) := hnew 5 40 (by kernel_rfl)
                have f41 : s 41 = .pointer (some ⟨b1, off + k * 3, none⟩) := hnew 6 41 (by kernel_rfl)
                have f42 : s 42 = vv xk xn xs := hnew 7 42 (by kernel_rfl)
                have f43 : s 43 = .bool true := hnew 8 43 (by kernel_rfl)
                change Exit.then _ _ .normal ⟨#[s 0, s 1, s 2, s 3, s 4, s 5, s 6, s 7, s 8, s 9, s 10, s 11, s 12, s 13, s 14, s 15, s 16, s 17, s 18, s 19, s 20, s 21, s 22, s 23, s 24, s 25, s 26, s 27, s 28, s 29, s 30, s 31, s 32, s 33, s 34, s 35, s 36, s 37, s 38, s 39, s 40, s 41, s 42, s 43, s 44, s 45, s 46, s 47, s 48], _⟩ _
                simp only [f0, f1, f2, f3, f5, f6, f7, f8, f9, f10, f11, f12, f13, f44, f45, f46, f47, f48, f35, f36, f37, f38, f39, f40, f41, f42, f43]
                clear hold hnew
                go_wp2
                go_ret
                exact ⟨by rw [HF.out]; rfl, hE4.trans hEs⟩
            · have HF : Hid (lessL a b = true) := Lib.hid (by
                rw [lessL_at HT.out HX.out HY.out (lessVV_ne HLX.out)]
                exact HLX.out)
              go_wp2_with fail
              refine wp_region_slots hmix [fun v _ => v = .slice (some ⟨b1, off, none⟩) n cap, fun v _ => v = .int .i64 (k : Int), fun v _ => v = .pointer (some ⟨b1, off + k * 3, none⟩), fun v _ => v = vv xk xn xs, fun v _ => v = .slice (some ⟨b2, off', none⟩) m cap', fun v _ => v = .int .i64 (k : Int), fun v _ => v = .pointer (some ⟨b2, off' + k * 3, none⟩), fun v _ => v = vv yk yn ys, fun v _ => v = .bool true]
                49 rfl (by kernel_rfl) ⟨mono_eq _, mono_eq _, mono_eq _, mono_eq _, mono_eq _, mono_eq _, mono_eq _, mono_eq _, mono_eq _, trivial⟩ ?_ ?_
              · refine ops_cons 0 ?_ (ops_cons 1 ?_ (ops_cons 2 ?_ (ops_cons 3 ?_ (ops_cons 4 ?_ (ops_cons 5 ?_ (ops_cons 6 ?_ (ops_cons 7 ?_ (ops_cons 8 ?_ (ops_nil 9)))))))))
                · refine op_value fun a w c => ⟨(wanted_plain rfl), _, run_move _ rfl w, (c.was 0 (by kernel_rfl) rfl)⟩
                · refine op_value fun a w c => ⟨(wanted_plain rfl), _, run_move _ rfl w, (c.was 5 (by kernel_rfl) rfl)⟩
                · refine op_value fun a w c => ⟨(wanted_plain rfl), .pointer (some ⟨b1, off + k * 3, none⟩), ?_, rfl⟩
                  have e26 : a.eval (.tmp 26) = .slice (some ⟨b1, off, none⟩) n cap := (c.new 0 26 (by kernel_rfl) (by kernel_rfl))
                  have e27 : a.eval (.tmp 27) = .int .i64 (k : Int) := (c.new 1 27 (by kernel_rfl) (by kernel_rfl))
                  generalize a.eval = ρ at e26 e27 ⊢
                  simp [execOp, e26, e27, go_sem, i1, i2]
                · refine op_value fun a w c => ⟨(wanted_plain rfl), _, run_load_elem rfl ((c.new 2 28 (by kernel_rfl) (by kernel_rfl)) : a.eval (.tmp 28) = .pointer (some ⟨b1, off + k * 3, none⟩)) ((c.ev.cell (p := ⟨_, _, none⟩) hb1).trans c0) ((c.ev.cell (p := ⟨_, _, none⟩) hb1).trans c1) ((c.ev.cell (p := ⟨_, _, none⟩) hb1).trans c2), rfl⟩
                · refine op_value fun a w c => ⟨(wanted_plain rfl), _, run_move _ rfl w, (c.was 1 (by kernel_rfl) rfl)⟩
                · refine op_value fun a w c => ⟨(wanted_plain rfl), _, run_move _ rfl w, (c.was 5 (by kernel_rfl) rfl)⟩
                · refine op_value fun a w c => ⟨(wanted_plain rfl), .pointer (some ⟨b2, off' + k * 3, none⟩), ?_, rfl⟩
                  have e30 : a.eval (.tmp 30) = .slice (some ⟨b2, off', none⟩) m cap' := (c.new 4 30 (by kernel_rfl) (by kernel_rfl))
                  have e31 : a.eval (.tmp 31) = .int .i64 (k : Int) := (c.new 5 31 (by kernel_rfl) (by kernel_rfl))
                  generalize a.eval = ρ at e30 e31 ⊢
                  simp [execOp, e30, e31, go_sem, i1, i3]
                · refine op_value fun a w c => ⟨(wanted_plain rfl), _, run_load_elem rfl ((c.new 6 32 (by kernel_rfl) (by kernel_rfl)) : a.eval (.tmp 32) = .pointer (some ⟨b2, off' + k * 3, none⟩)) ((c.ev.cell (p := ⟨_, _, none⟩) hb2).trans d0) ((c.ev.cell (p := ⟨_, _, none⟩) hb2).trans d1) ((c.ev.cell (p := ⟨_, _, none⟩) hb2).trans d2), rfl⟩
                · refine op_call fun a w c => ⟨(wanted_plain rfl), 54, #[vv xk xn xs, vv yk yn ys], ?_, ?_⟩
                  · rw [run_call 54 _ _ rfl (by kernel_rfl)]
                    have e29 : a.eval (.tmp 29) = vv xk xn xs := (c.new 3 29 (by kernel_rfl) (by kernel_rfl))
                    have e33 : a.eval (.tmp 33) = vv yk yn ys := (c.new 7 33 (by kernel_rfl) (by kernel_rfl))
                    simp [e29, e33]
                  · refine (refr_less _ _ _ _ _ _ w).mono ?_
                    rintro e w2 ⟨rfl, hE⟩
                    exact ⟨_, rfl, hE, congrArg Value.bool HLX.out⟩
              intro s w4 hEr hold hnew
              have f0 : s 0 = .slice (some ⟨b1, off, none⟩) n cap := hold 0 (by kernel_rfl)
              have f1 : s 1 = .slice (some ⟨b2, off', none⟩) m cap' := hold 1 (by kernel_rfl)
              have f2 : s 2 = undef := hold 2 (by kernel_rfl)
              have f3 : s 3 = undef := hold 3 (by kernel_rfl)
              have f5 : s 5 = .int .i64 (k : Int) := hold 5 (by kernel_rfl)
              have f6 : s 6 = .slice (some ⟨b1, off, none⟩) n cap := hold 6 (by kernel_rfl)
              have f7 : s 7 = .bool true := hold 7 (by kernel_rfl)
              have f8 : s 8 = .bool false := hold 8 (by kernel_rfl)
              have f9 : s 9 = .bool false := hold 9 (by kernel_rfl)
              have f10 : s 10 = .slice (some ⟨b2, off', none⟩) m cap' := hold 10 (by kernel_rfl)
              have f11 : s 11 = .bool true := hold 11 (by kernel_rfl)
              have f12 : s 12 = .bool false := hold 12 (by kernel_rfl)
              have f13 : s 13 = .bool false := hold 13 (by kernel_rfl)
              have f44 : s 44 = undef := hold 44 (by kernel_rfl)
              have f45 : s 45 = undef := hold 45 (by kernel_rfl)
              have f46 : s 46 = undef := hold 46 (by kernel_rfl)
              have f47 : s 47 = undef := hold 47 (by kernel_rfl)
              have f48 : s 48 = undef := hold 48 (by kernel_rfl)
              have f26 : s 26 = .slice (some ⟨b1, off, none⟩) n cap := hnew 0 26 (by kernel_rfl)
              have f27 : s 27 = .int .i64 (k : Int) := hnew 1 27 (by kernel_rfl)
              have f28 : s 28 = .pointer (some ⟨b1, off + k * 3, none⟩) := hnew 2 28 (by kernel_rfl)
              have f29 : s 29 = vv xk xn xs := hnew 3 29 (by kernel_rfl)
              have f30 : s 30 = .slice (some ⟨b2, off', none⟩) m cap' := hnew 4 30 (by kernel_rfl)
              have f31 : s 31 = .int .i64 (k : Int) := hnew 5 31 (by kernel_rfl)
              have f32 : s 32 = .pointer (some ⟨b2, off' + k * 3, none⟩) := hnew 6 32 (by kernel_rfl)
              have f33 : s 33 = vv yk yn ys := hnew 7 33 (by kernel_rfl)
              have f34 : s 34 = .bool true := hnew 8 34 (by kernel_rfl)
              change Exit.then _ _ .normal ⟨#[s 0, s 1, s 2, s 3, s 4, s 5, s 6, s 7, s 8, s 9, s 10, s 11, s 12, s 13, s 14, s 15, s 16, s 17, s 18, s 19, s 20, s 21, s 22, s 23, s 24, s 25, s 26, s 27, s 28, s 29, s 30, s 31, s 32, s 33, s 34, s 35, s 36, s 37, s 38, s 39, s 40, s 41, s 42, s 43, s 44, s 45, s 46, s 47, s 48], _⟩ _
              simp only [f0, f1, f2, f3, f5, f6, f7, f8, f9, f10, f11, f12, f13, f44, f45, f46, f47, f48, f26, f27, f28, f29, f30, f31, f32, f33, f34]
              clear hold hnew
              go_wp2
              go_ret
              exact ⟨by rw [HF.out]; rfl, hE.trans hEr⟩
          · have i3 : ¬ (k : Int) < (m : Int) := by omega
            have HF := Lib.hid (lessL_end HT.out (by rw [HL.out]; exact hk) (by rw [HM.out]; exact hk') (.inr (by rw [HM.out]; omega)))
            have e1 : ¬ (n : Int) < (m : Int) := by omega
            have e2 : decide (a.length < b.length) = false := decide_eq_false (by rw [HL.out, HM.out]; omega)
            go_wp2
            go_ret
            exact ⟨by rw [HF.out, e2]; rfl, hE⟩
        · have i2 : ¬ (k : Int) < (n : Int) := by omega
          have HF := Lib.hid (lessL_end HT.out (by rw [HL.out]; exact hk) (by rw [HM.out]; exact hk') (.inl (by rw [HL.out]; omega)))
          have e2 : decide (a.length < b.length) = decide (n < m) := by rw [HL.out, HM.out]
          go_wp2
          go_ret
          exact ⟨by rw [HF.out, e2]; rfl, hE⟩

set_option maxRecDepth 100000 in
set_option maxHeartbeats 4000000 in
theorem ref5_same {A B : Option Addr} {n m cap cap' : Nat} {a b : List V} (w : World) (h : Vs w A n cap a) (h' : Vs w B m cap' b) :
    Calls Try.prog 30 #[.slice A n cap, .slice B m cap'] w fun e w' => e = .returned (.bool (sameR a b)) ∧ Ev w w' := by
  have HR := Lib.hid (fun w1 (h1 : Vs w1 A n cap a) => ref5_right w1 h1)
  have HR' := Lib.hid (fun w1 (h1 : Vs w1 B m cap' b) => ref5_right w1 h1)
  have HS := fun w1 (h1 : Vs w1 A n cap a) (h2 : Vs w1 B m cap' b) => ref5_less w1 h1 h2
  have HS' := fun w1 (h1 : Vs w1 A n cap a) (h2 : Vs w1 B m cap' b) => ref5_less w1 h2 h1
  have hfin : rightR a = true → rightR b = true → lessL a b = false → lessL b a = false → decide (n = m) = true := fun h1 h2 h3 h4 => by
    have e := sameR_less (a := a) (b := b)
    rw [h1, h2, h3, h4] at e
    unfold sameR eqL at e
    rw [h1] at e
    simp only [Bool.true_and, Bool.not_false, decide_eq_true_eq] at e
    rw [decide_eq_true_eq, ← h.len, ← h'.len, e]
  rw [sameR_less]
  unfold lessR at HS HS'
  generalize rightR a = r at *
  generalize rightR b = r' at *
  cases r
  · go_enter Try.func30, Try.ntmps30
    go_wp2_with (first | ((with_reducible refine (HR.out _ h).mono ?_); rintro x w1 ⟨rfl, hE1⟩))
    go_ret
    exact ⟨rfl, hE1⟩
  · cases r'
    · go_enter Try.func30, Try.ntmps30
      go_wp2_with (first | ((with_reducible refine (HR.out _ h).mono ?_); rintro x w1 ⟨rfl, hE1⟩) | ((with_reducible refine (HR'.out _ (h'.ev hE1)).mono ?_); rintro x w2 ⟨rfl, hE2⟩))
      go_ret
      exact ⟨rfl, hE1.trans hE2⟩
    · simp only [Bool.and_self, if_true] at HS HS'
      have hfin := hfin rfl rfl
      generalize lessL a b = x at *
      generalize lessL b a = y at *
      have HS := Lib.hid HS
      have HS' := Lib.hid HS'
      cases x
      · cases y
        · have hnm : n = m := by simpa using hfin rfl rfl
          clear hfin
          subst hnm
          go_enter Try.func30, Try.ntmps30
          go_wp2_with (first | ((with_reducible refine (HR.out _ h).mono ?_); rintro x w1 ⟨rfl, hE1⟩) | ((with_reducible refine (HR'.out _ (h'.ev hE1)).mono ?_); rintro x w2 ⟨rfl, hE2⟩) | ((with_reducible refine (HS.out _ (h.ev (hE1.trans hE2)) (h'.ev (hE1.trans hE2))).mono ?_); rintro x w3 ⟨rfl, hE3⟩; have hE := (hE1.trans hE2).trans hE3) | ((with_reducible refine (HS'.out _ (h.ev hE) (h'.ev hE)).mono ?_); rintro x w4 ⟨rfl, hE4⟩))
          go_ret
          exact ⟨rfl, hE.trans hE4⟩
        · clear hfin
          go_enter Try.func30, Try.ntmps30
          go_wp2_with (first | ((with_reducible refine (HR.out _ h).mono ?_); rintro x w1 ⟨rfl, hE1⟩) | ((with_reducible refine (HR'.out _ (h'.ev hE1)).mono ?_); rintro x w2 ⟨rfl, hE2⟩) | ((with_reducible refine (HS.out _ (h.ev (hE1.trans hE2)) (h'.ev (hE1.trans hE2))).mono ?_); rintro x w3 ⟨rfl, hE3⟩; have hE := (hE1.trans hE2).trans hE3) | ((with_reducible refine (HS'.out _ (h.ev hE) (h'.ev hE)).mono ?_); rintro x w4 ⟨rfl, hE4⟩))
          go_ret
          exact ⟨rfl, hE.trans hE4⟩
      · clear hfin
        go_enter Try.func30, Try.ntmps30
        go_wp2_with (first | ((with_reducible refine (HR.out _ h).mono ?_); rintro x w1 ⟨rfl, hE1⟩) | ((with_reducible refine (HR'.out _ (h'.ev hE1)).mono ?_); rintro x w2 ⟨rfl, hE2⟩) | ((with_reducible refine (HS.out _ (h.ev (hE1.trans hE2)) (h'.ev (hE1.trans hE2))).mono ?_); rintro x w3 ⟨rfl, hE3⟩; have hE := (hE1.trans hE2).trans hE3))
        go_ret
        exact ⟨rfl, hE⟩

set_option maxRecDepth 100000 in
set_option maxHeartbeats 4000000 in
theorem ref5_fits {A B : Option Addr} {n m cap cap' : Nat} {l : List C} {r : List V} (w : World) (h : Cs w A n cap l) (h' : Vs w B m cap' r) :
    Calls Try.prog 31 #[.slice A n cap, .slice B m cap'] w fun e w' => e = .returned (.bool (fitsL l r)) ∧ Ev w w' := by
  have hn := h.le
  have hm := h.max
  have hn' := h'.le
  have hm' := h'.max
  have HL := Lib.hid h.len
  have HM := Lib.hid h'.len
  have hmix : Try.prog.follows .mixedOrders = true := by kernel_rfl
  by_cases hnm : n = m
  · subst hnm
    go_enter Try.func31, Try.ntmps31
    go_wp2
    go_loopw [5] (fun i wr => ∃ k : Nat, k ≤ n ∧ i = .int .i64 k ∧ Hid (fitsL (l.take k) (r.take k) = true) ∧ Ev w wr) (fun i _ => n - (intOf i).toNat)
    case atStart => exact ⟨0, Nat.zero_le _, rfl, Lib.hid (by simp [fitsL]), Ev.refl _⟩
    case round =>
      obtain ⟨k, hk, rfl, HT, hE⟩ := hrel
      by_cases hlt : k < n
      · obtain ⟨b2, off', ⟨xs, ck⟩, rfl, hb2, hy, d0, d1⟩ := (h.ev hE).ccell hlt
        obtain ⟨b1, off, ⟨vk, vn, vs⟩, rfl, hb1, hx, c0, c1, c2⟩ := (h'.ev hE).vcell hlt
        simp only at c0 c1 c2 d0 d1
        have i1 : (0 : Int) ≤ (k : Int) := by omega
        have i2 : (k : Int) < (n : Int) := by omega
        have HX := Lib.hid hx
        have HY := Lib.hid hy
        have HV := fun w1 => refr_right vk vn vs w1
        obtain ⟨rr, hrr⟩ : ∃ rr, rightV vk vn vs = rr := ⟨_, rfl⟩
        rw [hrr] at HV
        clear hx hy h h'
        cases rr
        · have HF : Hid (fitsL l r = false) := Lib.hid (fitsL_not k l r _ _ HY.out HX.out (.inl hrr))
          clear hrr
          go_wp2_with fail
          refine wp_region_slots hmix [fun v _ => v = .slice (some ⟨b1, off, none⟩) n cap', fun v _ => v = .int .i64 (k : Int), fun v _ => v = .pointer (some ⟨b1, off + k * 3, none⟩), fun v _ => v = vv vk vn vs, fun v _ => v = .bool false, fun v _ => v = .bool true, fun v _ => v = .bool true, fun _ _ => True, fun _ _ => True, fun _ _ => True, fun _ _ => True, fun _ _ => True, fun _ _ => True, fun _ _ => True, fun _ _ => True, fun _ _ => True, fun _ _ => True, fun _ _ => True, fun v _ => v = .bool true]
            36 rfl (by kernel_rfl) ⟨mono_eq _, mono_eq _, mono_eq _, mono_eq _, mono_eq _, mono_eq _, mono_eq _, mono_true, mono_true, mono_true, mono_true, mono_true, mono_true, mono_true, mono_true, mono_true, mono_true, mono_true, mono_eq _, trivial⟩ ?_ ?_
          · refine ops_cons 0 ?_ (ops_cons 1 ?_ (ops_cons 2 ?_ (ops_cons 3 ?_ (ops_cons 4 ?_ (ops_cons 5 ?_ (ops_cons 6 ?_ (ops_cons 7 ?_ (ops_cons 8 ?_ (ops_cons 9 ?_ (ops_cons 10 ?_ (ops_cons 11 ?_ (ops_cons 12 ?_ (ops_cons 13 ?_ (ops_cons 14 ?_ (ops_cons 15 ?_ (ops_cons 16 ?_ (ops_cons 17 ?_ (ops_cons 18 ?_ (ops_nil 19)))))))))))))))))))
            · refine op_value fun a w c => ⟨(wanted_plain rfl), _, run_move _ rfl w, (c.was 1 (by kernel_rfl) rfl)⟩
            · refine op_value fun a w c => ⟨(wanted_plain rfl), _, run_move _ rfl w, (c.was 5 (by kernel_rfl) rfl)⟩
            · refine op_value fun a w c => ⟨(wanted_plain rfl), .pointer (some ⟨b1, off + k * 3, none⟩), ?_, rfl⟩
              have e17 : a.eval (.tmp 17) = .slice (some ⟨b1, off, none⟩) n cap' := (c.new 0 17 (by kernel_rfl) (by kernel_rfl))
              have e18 : a.eval (.tmp 18) = .int .i64 (k : Int) := (c.new 1 18 (by kernel_rfl) (by kernel_rfl))
              generalize a.eval = ρ at e17 e18 ⊢
              simp [execOp, e17, e18, go_sem, i1, i2]
            · refine op_value fun a w c => ⟨(wanted_plain rfl), _, run_load_elem rfl ((c.new 2 19 (by kernel_rfl) (by kernel_rfl)) : a.eval (.tmp 19) = .pointer (some ⟨b1, off + k * 3, none⟩)) ((c.ev.cell (p := ⟨_, _, none⟩) hb1).trans c0) ((c.ev.cell (p := ⟨_, _, none⟩) hb1).trans c1) ((c.ev.cell (p := ⟨_, _, none⟩) hb1).trans c2), rfl⟩
            · refine op_call fun a w c => ⟨(wanted_plain rfl), 51, #[vv vk vn vs], ?_, ?_⟩
              · rw [run_call 51 _ _ rfl (by kernel_rfl)]
                have e20 : a.eval (.tmp 20) = vv vk vn vs := (c.new 3 20 (by kernel_rfl) (by kernel_rfl))
                simp [e20]
              · refine (HV w).mono ?_
                rintro e w2 ⟨rfl, hE⟩
                exact ⟨_, rfl, hE, rfl⟩
            · refine op_value fun a w c => ⟨(wanted_plain rfl), .bool true, ?_, rfl⟩
              have e21 : a.eval (.tmp 21) = .bool false := (c.new 4 21 (by kernel_rfl) (by kernel_rfl))
              generalize a.eval = ρ at e21 ⊢
              simp [execOp, e21, go_sem]
            · refine op_value fun a w c => ⟨(wanted_plain rfl), _, run_move _ rfl w, (c.new 5 22 (by kernel_rfl) (by kernel_rfl))⟩
            · refine op_skip fun a w c => ⟨(wanted_no rfl (by kernel_rfl) (c.new 6 23 (by kernel_rfl) (by kernel_rfl)) (by decide)), trivial⟩
            · refine op_skip fun a w c => ⟨(wanted_no rfl (by kernel_rfl) (c.new 6 23 (by kernel_rfl) (by kernel_rfl)) (by decide)), trivial⟩
            · refine op_skip fun a w c => ⟨(wanted_no rfl (by kernel_rfl) (c.new 6 23 (by kernel_rfl) (by kernel_rfl)) (by decide)), trivial⟩
            · refine op_skip fun a w c => ⟨(wanted_no rfl (by kernel_rfl) (c.new 6 23 (by kernel_rfl) (by kernel_rfl)) (by decide)), trivial⟩
            · refine op_skip fun a w c => ⟨(wanted_no rfl (by kernel_rfl) (c.new 6 23 (by kernel_rfl) (by kernel_rfl)) (by decide)), trivial⟩
            · refine op_skip fun a w c => ⟨(wanted_no rfl (by kernel_rfl) (c.new 6 23 (by kernel_rfl) (by kernel_rfl)) (by decide)), trivial⟩
            · refine op_skip fun a w c => ⟨(wanted_no rfl (by kernel_rfl) (c.new 6 23 (by kernel_rfl) (by kernel_rfl)) (by decide)), trivial⟩
            · refine op_skip fun a w c => ⟨(wanted_no rfl (by kernel_rfl) (c.new 6 23 (by kernel_rfl) (by kernel_rfl)) (by decide)), trivial⟩
            · refine op_skip fun a w c => ⟨(wanted_no rfl (by kernel_rfl) (c.new 6 23 (by kernel_rfl) (by kernel_rfl)) (by decide)), trivial⟩
            · refine op_skip fun a w c => ⟨(wanted_no rfl (by kernel_rfl) (c.new 6 23 (by kernel_rfl) (by kernel_rfl)) (by decide)), trivial⟩
            · refine op_skip fun a w c => ⟨(wanted_no rfl (by kernel_rfl) (c.new 6 23 (by kernel_rfl) (by kernel_rfl)) (by decide)), trivial⟩
            · refine op_value fun a w c => ⟨(wanted_plain rfl), _, run_pick_true rfl (c.new 6 23 (by kernel_rfl) (by kernel_rfl)) w, (evc a _)⟩
          intro s w4 hEr hold hnew
          have f0 : s 0 = .slice (some ⟨b2, off', none⟩) n cap := hold 0 (by kernel_rfl)
          have f1 : s 1 = .slice (some ⟨b1, off, none⟩) n cap' := hold 1 (by kernel_rfl)
          have f2 : s 2 = undef := hold 2 (by kernel_rfl)
          have f3 : s 3 = undef := hold 3 (by kernel_rfl)
          have f5 : s 5 = .int .i64 (k : Int) := hold 5 (by kernel_rfl)
          have f6 : s 6 = .slice (some ⟨b2, off', none⟩) n cap := hold 6 (by kernel_rfl)
          have f7 : s 7 = .int .i64 (n : Int) := hold 7 (by kernel_rfl)
          have f8 : s 8 = .slice (some ⟨b1, off, none⟩) n cap' := hold 8 (by kernel_rfl)
          have f9 : s 9 = .int .i64 (n : Int) := hold 9 (by kernel_rfl)
          have f10 : s 10 = .bool false := hold 10 (by kernel_rfl)
          have f17 : s 17 = .slice (some ⟨b1, off, none⟩) n cap' := hnew 0 17 (by kernel_rfl)
          have f18 : s 18 = .int .i64 (k : Int) := hnew 1 18 (by kernel_rfl)
          have f19 : s 19 = .pointer (some ⟨b1, off + k * 3, none⟩) := hnew 2 19 (by kernel_rfl)
          have f20 : s 20 = vv vk vn vs := hnew 3 20 (by kernel_rfl)
          have f21 : s 21 = .bool false := hnew 4 21 (by kernel_rfl)
          have f22 : s 22 = .bool true := hnew 5 22 (by kernel_rfl)
          have f23 : s 23 = .bool true := hnew 6 23 (by kernel_rfl)
          have f35 : s 35 = .bool true := hnew 18 35 (by kernel_rfl)
          change Exit.then _ _ .normal ⟨#[s 0, s 1, s 2, s 3, s 4, s 5, s 6, s 7, s 8, s 9, s 10, s 11, s 12, s 13, s 14, s 15, s 16, s 17, s 18, s 19, s 20, s 21, s 22, s 23, s 24, s 25, s 26, s 27, s 28, s 29, s 30, s 31, s 32, s 33, s 34, s 35], _⟩ _
          simp only [f0, f1, f2, f3, f5, f6, f7, f8, f9, f10, f17, f18, f19, f20, f21, f22, f23, f35]
          clear hold hnew
          go_wp2
          go_ret
          exact ⟨by rw [HF.out]; rfl, hE.trans hEr⟩
        · by_cases hkk : vk = ck
          · subst hkk
            have HF := Lib.hid (fitsL_step k l r _ _ HT.out HY.out HX.out hrr rfl)
            clear hrr
            go_wp2_with fail
            refine wp_region_slots hmix [fun v _ => v = .slice (some ⟨b1, off, none⟩) n cap', fun v _ => v = .int .i64 (k : Int), fun v _ => v = .pointer (some ⟨b1, off + k * 3, none⟩), fun v _ => v = vv vk vn vs, fun v _ => v = .bool true, fun v _ => v = .bool false, fun v _ => v = .bool false, fun v _ => v = .slice (some ⟨b1, off, none⟩) n cap', fun v _ => v = .int .i64 (k : Int), fun v _ => v = .pointer (some ⟨b1, off + k * 3, none⟩), fun v _ => v = .pointer (some ⟨b1, off + k * 3, none⟩), fun v _ => v = .int .i64 vk, fun v _ => v = .slice (some ⟨b2, off', none⟩) n cap, fun v _ => v = .int .i64 (k : Int), fun v _ => v = .pointer (some ⟨b2, off' + k * 2, none⟩), fun v _ => v = .pointer (some ⟨b2, off' + k * 2 + 1, none⟩), fun v _ => v = .int .i64 vk, fun v _ => v = .bool false, fun v _ => v = .bool false]
              36 rfl (by kernel_rfl) ⟨mono_eq _, mono_eq _, mono_eq _, mono_eq _, mono_eq _, mono_eq _, mono_eq _, mono_eq _, mono_eq _, mono_eq _, mono_eq _, mono_eq _, mono_eq _, mono_eq _, mono_eq _, mono_eq _, mono_eq _, mono_eq _, mono_eq _, trivial⟩ ?_ ?_
            · refine ops_cons 0 ?_ (ops_cons 1 ?_ (ops_cons 2 ?_ (ops_cons 3 ?_ (ops_cons 4 ?_ (ops_cons 5 ?_ (ops_cons 6 ?_ (ops_cons 7 ?_ (ops_cons 8 ?_ (ops_cons 9 ?_ (ops_cons 10 ?_ (ops_cons 11 ?_ (ops_cons 12 ?_ (ops_cons 13 ?_ (ops_cons 14 ?_ (ops_cons 15 ?_ (ops_cons 16 ?_ (ops_cons 17 ?_ (ops_cons 18 ?_ (ops_nil 19)))))))))))))))))))
              · refine op_value fun a w c => ⟨(wanted_plain rfl), _, run_move _ rfl w, (c.was 1 (by kernel_rfl) rfl)⟩
              · refine op_value fun a w c => ⟨(wanted_plain rfl), _, run_move _ rfl w, (c.was 5 (by kernel_rfl) rfl)⟩
              · refine op_value fun a w c => ⟨(wanted_plain rfl), .pointer (some ⟨b1, off + k * 3, none⟩), ?_, rfl⟩
                have e17 : a.eval (.tmp 17) = .slice (some ⟨b1, off, none⟩) n cap' := (c.new 0 17 (by kernel_rfl) (by kernel_rfl))
                have e18 : a.eval (.tmp 18) = .int .i64 (k : Int) := (c.new 1 18 (by kernel_rfl) (by kernel_rfl))
                generalize a.eval = ρ at e17 e18 ⊢
                simp [execOp, e17, e18, go_sem, i1, i2]
              · refine op_value fun a w c => ⟨(wanted_plain rfl), _, run_load_elem rfl ((c.new 2 19 (by kernel_rfl) (by kernel_rfl)) : a.eval (.tmp 19) = .pointer (some ⟨b1, off + k * 3, none⟩)) ((c.ev.cell (p := ⟨_, _, none⟩) hb1).trans c0) ((c.ev.cell (p := ⟨_, _, none⟩) hb1).trans c1) ((c.ev.cell (p := ⟨_, _, none⟩) hb1).trans c2), rfl⟩
              · refine op_call fun a w c => ⟨(wanted_plain rfl), 51, #[vv vk vn vs], ?_, ?_⟩
                · rw [run_call 51 _ _ rfl (by kernel_rfl)]
                  have e20 : a.eval (.tmp 20) = vv vk vn vs := (c.new 3 20 (by kernel_rfl) (by kernel_rfl))
                  simp [e20]
                · refine (HV w).mono ?_
                  rintro e w2 ⟨rfl, hE⟩
                  exact ⟨_, rfl, hE, rfl⟩
              · refine op_value fun a w c => ⟨(wanted_plain rfl), .bool false, ?_, rfl⟩
                have e21 : a.eval (.tmp 21) = .bool true := (c.new 4 21 (by kernel_rfl) (by kernel_rfl))
                generalize a.eval = ρ at e21 ⊢
                simp [execOp, e21, go_sem]
              · refine op_value fun a w c => ⟨(wanted_plain rfl), _, run_move _ rfl w, (c.new 5 22 (by kernel_rfl) (by kernel_rfl))⟩
              · refine op_value fun a w c => ⟨(wanted_yes rfl (by kernel_rfl) (c.new 6 23 (by kernel_rfl) (by kernel_rfl))), _, run_move _ rfl w, (c.was 1 (by kernel_rfl) rfl)⟩
              · refine op_value fun a w c => ⟨(wanted_yes rfl (by kernel_rfl) (c.new 6 23 (by kernel_rfl) (by kernel_rfl))), _, run_move _ rfl w, (c.was 5 (by kernel_rfl) rfl)⟩
              · refine op_value fun a w c => ⟨(wanted_yes rfl (by kernel_rfl) (c.new 6 23 (by kernel_rfl) (by kernel_rfl))), .pointer (some ⟨b1, off + k * 3, none⟩), ?_, rfl⟩
                have e24 : a.eval (.tmp 24) = .slice (some ⟨b1, off, none⟩) n cap' := (c.new 7 24 (by kernel_rfl) (by kernel_rfl))
                have e25 : a.eval (.tmp 25) = .int .i64 (k : Int) := (c.new 8 25 (by kernel_rfl) (by kernel_rfl))
                generalize a.eval = ρ at e24 e25 ⊢
                simp [execOp, e24, e25, go_sem, i1, i2]
              · refine op_value fun a w c => ⟨(wanted_yes rfl (by kernel_rfl) (c.new 6 23 (by kernel_rfl) (by kernel_rfl))), .pointer (some ⟨b1, off + k * 3, none⟩), ?_, rfl⟩
                have e26 : a.eval (.tmp 26) = .pointer (some ⟨b1, off + k * 3, none⟩) := (c.new 9 26 (by kernel_rfl) (by kernel_rfl))
                generalize a.eval = ρ at e26 ⊢
                simp [execOp, e26, go_sem]
              · refine op_value fun a w c => ⟨(wanted_yes rfl (by kernel_rfl) (c.new 6 23 (by kernel_rfl) (by kernel_rfl))), .int .i64 vk, ?_, rfl⟩
                have e27 : a.eval (.tmp 27) = .pointer (some ⟨b1, off + k * 3, none⟩) := (c.new 10 27 (by kernel_rfl) (by kernel_rfl))
                have hc := (c.ev.cell (p := ⟨_, _, none⟩) hb1).trans c0
                generalize a.eval = ρ at e27 ⊢
                simp [execOp, e27, hc, go_sem]
              · refine op_value fun a w c => ⟨(wanted_yes rfl (by kernel_rfl) (c.new 6 23 (by kernel_rfl) (by kernel_rfl))), _, run_move _ rfl w, (c.was 0 (by kernel_rfl) rfl)⟩
              · refine op_value fun a w c => ⟨(wanted_yes rfl (by kernel_rfl) (c.new 6 23 (by kernel_rfl) (by kernel_rfl))), _, run_move _ rfl w, (c.was 5 (by kernel_rfl) rfl)⟩
              · refine op_value fun a w c => ⟨(wanted_yes rfl (by kernel_rfl) (c.new 6 23 (by kernel_rfl) (by kernel_rfl))), .pointer (some ⟨b2, off' + k * 2, none⟩), ?_, rfl⟩
                have e29 : a.eval (.tmp 29) = .slice (some ⟨b2, off', none⟩) n cap := (c.new 12 29 (by kernel_rfl) (by kernel_rfl))
                have e30 : a.eval (.tmp 30) = .int .i64 (k : Int) := (c.new 13 30 (by kernel_rfl) (by kernel_rfl))
                generalize a.eval = ρ at e29 e30 ⊢
                simp [execOp, e29, e30, go_sem, i1, i2]
              · refine op_value fun a w c => ⟨(wanted_yes rfl (by kernel_rfl) (c.new 6 23 (by kernel_rfl) (by kernel_rfl))), .pointer (some ⟨b2, off' + k * 2 + 1, none⟩), ?_, rfl⟩
                have e31 : a.eval (.tmp 31) = .pointer (some ⟨b2, off' + k * 2, none⟩) := (c.new 14 31 (by kernel_rfl) (by kernel_rfl))
                generalize a.eval = ρ at e31 ⊢
                simp [execOp, e31, go_sem]
              · refine op_value fun a w c => ⟨(wanted_yes rfl (by kernel_rfl) (c.new 6 23 (by kernel_rfl) (by kernel_rfl))), .int .i64 vk, ?_, rfl⟩
                have e32 : a.eval (.tmp 32) = .pointer (some ⟨b2, off' + k * 2 + 1, none⟩) := (c.new 15 32 (by kernel_rfl) (by kernel_rfl))
                have hc := (c.ev.cell (p := ⟨_, _, none⟩) hb2).trans d1
                generalize a.eval = ρ at e32 ⊢
                simp [execOp, e32, hc, go_sem]
              · refine op_value fun a w c => ⟨(wanted_yes rfl (by kernel_rfl) (c.new 6 23 (by kernel_rfl) (by kernel_rfl))), .bool false, ?_, rfl⟩
                have e28 : a.eval (.tmp 28) = .int .i64 vk := (c.new 11 28 (by kernel_rfl) (by kernel_rfl))
                have e33 : a.eval (.tmp 33) = .int .i64 vk := (c.new 16 33 (by kernel_rfl) (by kernel_rfl))
                generalize a.eval = ρ at e28 e33 ⊢
                simp [execOp, e28, e33, go_sem]
              · refine op_value fun a w c => ⟨(wanted_plain rfl), _, run_pick_false rfl (c.new 6 23 (by kernel_rfl) (by kernel_rfl)) w, (c.new 17 34 (by kernel_rfl) (by kernel_rfl))⟩
            intro s w4 hEr hold hnew
            have f0 : s 0 = .slice (some ⟨b2, off', none⟩) n cap := hold 0 (by kernel_rfl)
            have f1 : s 1 = .slice (some ⟨b1, off, none⟩) n cap' := hold 1 (by kernel_rfl)
            have f2 : s 2 = undef := hold 2 (by kernel_rfl)
            have f3 : s 3 = undef := hold 3 (by kernel_rfl)
            have f5 : s 5 = .int .i64 (k : Int) := hold 5 (by kernel_rfl)
            have f6 : s 6 = .slice (some ⟨b2, off', none⟩) n cap := hold 6 (by kernel_rfl)
            have f7 : s 7 = .int .i64 (n : Int) := hold 7 (by kernel_rfl)
            have f8 : s 8 = .slice (some ⟨b1, off, none⟩) n cap' := hold 8 (by kernel_rfl)
            have f9 : s 9 = .int .i64 (n : Int) := hold 9 (by kernel_rfl)
            have f10 : s 10 = .bool false := hold 10 (by kernel_rfl)
            have f17 : s 17 = .slice (some ⟨b1, off, none⟩) n cap' := hnew 0 17 (by kernel_rfl)
            have f18 : s 18 = .int .i64 (k : Int) := hnew 1 18 (by kernel_rfl)
            have f19 : s 19 = .pointer (some ⟨b1, off + k * 3, none⟩) := hnew 2 19 (by kernel_rfl)
            have f20 : s 20 = vv vk vn vs := hnew 3 20 (by kernel_rfl)
            have f21 : s 21 = .bool true := hnew 4 21 (by kernel_rfl)
            have f22 : s 22 = .bool false := hnew 5 22 (by kernel_rfl)
            have f23 : s 23 = .bool false := hnew 6 23 (by kernel_rfl)
            have f24 : s 24 = .slice (some ⟨b1, off, none⟩) n cap' := hnew 7 24 (by kernel_rfl)
            have f25 : s 25 = .int .i64 (k : Int) := hnew 8 25 (by kernel_rfl)
            have f26 : s 26 = .pointer (some ⟨b1, off + k * 3, none⟩) := hnew 9 26 (by kernel_rfl)
            have f27 : s 27 = .pointer (some ⟨b1, off + k * 3, none⟩) := hnew 10 27 (by kernel_rfl)
            have f28 : s 28 = .int .i64 vk := hnew 11 28 (by kernel_rfl)
            have f29 : s 29 = .slice (some ⟨b2, off', none⟩) n cap := hnew 12 29 (by kernel_rfl)
            have f30 : s 30 = .int .i64 (k : Int) := hnew 13 30 (by kernel_rfl)
            have f31 : s 31 = .pointer (some ⟨b2, off' + k * 2, none⟩) := hnew 14 31 (by kernel_rfl)
            have f32 : s 32 = .pointer (some ⟨b2, off' + k * 2 + 1, none⟩) := hnew 15 32 (by kernel_rfl)
            have f33 : s 33 = .int .i64 vk := hnew 16 33 (by kernel_rfl)
            have f34 : s 34 = .bool false := hnew 17 34 (by kernel_rfl)
            have f35 : s 35 = .bool false := hnew 18 35 (by kernel_rfl)
            change Exit.then _ _ .normal ⟨#[s 0, s 1, s 2, s 3, s 4, s 5, s 6, s 7, s 8, s 9, s 10, s 11, s 12, s 13, s 14, s 15, s 16, s 17, s 18, s 19, s 20, s 21, s 22, s 23, s 24, s 25, s 26, s 27, s 28, s 29, s 30, s 31, s 32, s 33, s 34, s 35], _⟩ _
            simp only [f0, f1, f2, f3, f5, f6, f7, f8, f9, f10, f17, f18, f19, f20, f21, f22, f23, f24, f25, f26, f27, f28, f29, f30, f31, f32, f33, f34, f35]
            clear hold hnew
            generalize s 4 = u4
            generalize s 11 = u11
            generalize s 12 = u12
            generalize s 13 = u13
            generalize s 14 = u14
            generalize s 15 = u15
            generalize s 16 = u16
            go_wp2
            go_roundw
            case rel => exact ⟨k + 1, by omega, by go_num, HF, hE.trans hEr⟩
            case measure => simp [intOf]; omega
          · have HF : Hid (fitsL l r = false) := Lib.hid (fitsL_not k l r _ _ HY.out HX.out (.inr hkk))
            clear hrr
            go_wp2_with fail
            refine wp_region_slots hmix [fun v _ => v = .slice (some ⟨b1, off, none⟩) n cap', fun v _ => v = .int .i64 (k : Int), fun v _ => v = .pointer (some ⟨b1, off + k * 3, none⟩), fun v _ => v = vv vk vn vs, fun v _ => v = .bool true, fun v _ => v = .bool false, fun v _ => v = .bool false, fun v _ => v = .slice (some ⟨b1, off, none⟩) n cap', fun v _ => v = .int .i64 (k : Int), fun v _ => v = .pointer (some ⟨b1, off + k * 3, none⟩), fun v _ => v = .pointer (some ⟨b1, off + k * 3, none⟩), fun v _ => v = .int .i64 vk, fun v _ => v = .slice (some ⟨b2, off', none⟩) n cap, fun v _ => v = .int .i64 (k : Int), fun v _ => v = .pointer (some ⟨b2, off' + k * 2, none⟩), fun v _ => v = .pointer (some ⟨b2, off' + k * 2 + 1, none⟩), fun v _ => v = .int .i64 ck, fun v _ => v = .bool true, fun v _ => v = .bool true]
              36 rfl (by kernel_rfl) ⟨mono_eq _, mono_eq _, mono_eq _, mono_eq _, mono_eq _, mono_eq _, mono_eq _, mono_eq _, mono_eq _, mono_eq _, mono_eq _, mono_eq _, mono_eq _, mono_eq _, mono_eq _, mono_eq _, mono_eq _, mono_eq _, mono_eq _, trivial⟩ ?_ ?_
            · refine ops_cons 0 ?_ (ops_cons 1 ?_ (ops_cons 2 ?_ (ops_cons 3 ?_ (ops_cons 4 ?_ (ops_cons 5 ?_ (ops_cons 6 ?_ (ops_cons 7 ?_ (ops_cons 8 ?_ (ops_cons 9 ?_ (ops_cons 10 ?_ (ops_cons 11 ?_ (ops_cons 12 ?_ (ops_cons 13 ?_ (ops_cons 14 ?_ (ops_cons 15 ?_ (ops_cons 16 ?_ (ops_cons 17 ?_ (ops_cons 18 ?_ (ops_nil 19)))))))))))))))))))
              · refine op_value fun a w c => ⟨(wanted_plain rfl), _, run_move _ rfl w, (c.was 1 (by kernel_rfl) rfl)⟩
              · refine op_value fun a w c => ⟨(wanted_plain rfl), _, run_move _ rfl w, (c.was 5 (by kernel_rfl) rfl)⟩
              · refine op_value fun a w c => ⟨(wanted_plain rfl), .pointer (some ⟨b1, off + k * 3, none⟩), ?_, rfl⟩
                have e17 : a.eval (.tmp 17) = .slice (some ⟨b1, off, none⟩) n cap' := (c.new 0 17 (by kernel_rfl) (by kernel_rfl))
                have e18 : a.eval (.tmp 18) = .int .i64 (k : Int) := (c.new 1 18 (by kernel_rfl) (by kernel_rfl))
                generalize a.eval = ρ at e17 e18 ⊢
                simp [execOp, e17, e18, go_sem, i1, i2]
              · refine op_value fun a w c => ⟨(wanted_plain rfl), _, run_load_elem rfl ((c.new 2 19 (by kernel_rfl) (by kernel_rfl)) : a.eval (.tmp 19) = .pointer (some ⟨b1, off + k * 3, none⟩)) ((c.ev.cell (p := ⟨_, _, none⟩) hb1).trans c0) ((c.ev.cell (p := ⟨_, _, none⟩) hb1).trans c1) ((c.ev.cell (p := ⟨_, _, none⟩) hb1).trans c2), rfl⟩
              · refine op_call fun a w c => ⟨(wanted_plain rfl), 51, #[vv vk vn vs], ?_, ?_⟩
                · rw [run_call 51 _ _ rfl (by kernel_rfl)]
                  have e20 : a.eval (.tmp 20) = vv vk vn vs := (c.new 3 20 (by kernel_rfl) (by kernel_rfl))
                  simp [e20]
                · refine (HV w).mono ?_
                  rintro e w2 ⟨rfl, hE⟩
                  exact ⟨_, rfl, hE, rfl⟩
              · refine op_value fun a w c => ⟨(wanted_plain rfl), .bool false, ?_, rfl⟩
                have e21 : a.eval (.tmp 21) = .bool true := (c.new 4 21 (by kernel_rfl) (by kernel_rfl))
                generalize a.eval = ρ at e21 ⊢
                simp [execOp, e21, go_sem]
              · refine op_value fun a w c => ⟨(wanted_plain rfl), _, run_move _ rfl w, (c.new 5 22 (by kernel_rfl) (by kernel_rfl))⟩
              · refine op_value fun a w c => ⟨(wanted_yes rfl (by kernel_rfl) (c.new 6 23 (by kernel_rfl) (by kernel_rfl))), _, run_move _ rfl w, (c.was 1 (by kernel_rfl) rfl)⟩
              · refine op_value fun a w c => ⟨(wanted_yes rfl (by kernel_rfl) (c.new 6 23 (by kernel_rfl) (by kernel_rfl))), _, run_move _ rfl w, (c.was 5 (by kernel_rfl) rfl)⟩
              · refine op_value fun a w c => ⟨(wanted_yes rfl (by kernel_rfl) (c.new 6 23 (by kernel_rfl) (by kernel_rfl))), .pointer (some ⟨b1, off + k * 3, none⟩), ?_, rfl⟩
                have e24 : a.eval (.tmp 24) = .slice (some ⟨b1, off, none⟩) n cap' := (c.new 7 24 (by kernel_rfl) (by kernel_rfl))
                have e25 : a.eval (.tmp 25) = .int .i64 (k : Int) := (c.new 8 25 (by kernel_rfl) (by kernel_rfl))
                generalize a.eval = ρ at e24 e25 ⊢
                simp [execOp, e24, e25, go_sem, i1, i2]
              · refine op_value fun a w c => ⟨(wanted_yes rfl (by kernel_rfl) (c.new 6 23 (by kernel_rfl) (by kernel_rfl))), .pointer (some ⟨b1, off + k * 3, none⟩), ?_, rfl⟩
                have e26 : a.eval (.tmp 26) = .pointer (some ⟨b1, off + k * 3, none⟩) := (c.new 9 26 (by kernel_rfl) (by kernel_rfl))
                generalize a.eval = ρ at e26 ⊢
                simp [execOp, e26, go_sem]
              · refine op_value fun a w c => ⟨(wanted_yes rfl (by kernel_rfl) (c.new 6 23 (by kernel_rfl) (by kernel_rfl))), .int .i64 vk, ?_, rfl⟩
                have e27 : a.eval (.tmp 27) = .pointer (some ⟨b1, off + k * 3, none⟩) := (c.new 10 27 (by kernel_rfl) (by kernel_rfl))
                have hc := (c.ev.cell (p := ⟨_, _, none⟩) hb1).trans c0
                generalize a.eval = ρ at e27 ⊢
                simp [execOp, e27, hc, go_sem]
              · refine op_value fun a w c => ⟨(wanted_yes rfl (by kernel_rfl) (c.new 6 23 (by kernel_rfl) (by kernel_rfl))), _, run_move _ rfl w, (c.was 0 (by kernel_rfl) rfl)⟩
              · refine op_value fun a w c => ⟨(wanted_yes rfl (by kernel_rfl) (c.new 6 23 (by kernel_rfl) (by kernel_rfl))), _, run_move _ rfl w, (c.was 5 (by kernel_rfl) rfl)⟩
              · refine op_value fun a w c => ⟨(wanted_yes rfl (by kernel_rfl) (c.new 6 23 (by kernel_rfl) (by kernel_rfl))), .pointer (some ⟨b2, off' + k * 2, none⟩), ?_, rfl⟩
                have e29 : a.eval (.tmp 29) = .slice (some ⟨b2, off', none⟩) n cap := (c.new 12 29 (by kernel_rfl) (by kernel_rfl))
                have e30 : a.eval (.tmp 30) = .int .i64 (k : Int) := (c.new 13 30 (by kernel_rfl) (by kernel_rfl))
                generalize a.eval = ρ at e29 e30 ⊢
                simp [execOp, e29, e30, go_sem, i1, i2]
              · refine op_value fun a w c => ⟨(wanted_yes rfl (by kernel_rfl) (c.new 6 23 (by kernel_rfl) (by kernel_rfl))), .pointer (some ⟨b2, off' + k * 2 + 1, none⟩), ?_, rfl⟩
                have e31 : a.eval (.tmp 31) = .pointer (some ⟨b2, off' + k * 2, none⟩) := (c.new 14 31 (by kernel_rfl) (by kernel_rfl))
                generalize a.eval = ρ at e31 ⊢
                simp [execOp, e31, go_sem]
              · refine op_value fun a w c => ⟨(wanted_yes rfl (by kernel_rfl) (c.new 6 23 (by kernel_rfl) (by kernel_rfl))), .int .i64 ck, ?_, rfl⟩
                have e32 : a.eval (.tmp 32) = .pointer (some ⟨b2, off' + k * 2 + 1, none⟩) := (c.new 15 32 (by kernel_rfl) (by kernel_rfl))
                have hc := (c.ev.cell (p := ⟨_, _, none⟩) hb2).trans d1
                generalize a.eval = ρ at e32 ⊢
                simp [execOp, e32, hc, go_sem]
              · refine op_value fun a w c => ⟨(wanted_yes rfl (by kernel_rfl) (c.new 6 23 (by kernel_rfl) (by kernel_rfl))), .bool true, ?_, rfl⟩
                have e28 : a.eval (.tmp 28) = .int .i64 vk := (c.new 11 28 (by kernel_rfl) (by kernel_rfl))
                have e33 : a.eval (.tmp 33) = .int .i64 ck := (c.new 16 33 (by kernel_rfl) (by kernel_rfl))
                generalize a.eval = ρ at e28 e33 ⊢
                simp [execOp, e28, e33, go_sem, hkk]
              · refine op_value fun a w c => ⟨(wanted_plain rfl), _, run_pick_false rfl (c.new 6 23 (by kernel_rfl) (by kernel_rfl)) w, (c.new 17 34 (by kernel_rfl) (by kernel_rfl))⟩
            intro s w4 hEr hold hnew
            have f0 : s 0 = .slice (some ⟨b2, off', none⟩) n cap := hold 0 (by kernel_rfl)
            have f1 : s 1 = .slice (some ⟨b1, off, none⟩) n cap' := hold 1 (by kernel_rfl)
            have f2 : s 2 = undef := hold 2 (by kernel_rfl)
            have f3 : s 3 = undef := hold 3 (by kernel_rfl)
            have f5 : s 5 = .int .i64 (k : Int) := hold 5 (by kernel_rfl)
            have f6 : s 6 = .slice (some ⟨b2, off', none⟩) n cap := hold 6 (by kernel_rfl)
            have f7 : s 7 = .int .i64 (n : Int) := hold 7 (by kernel_rfl)
            have f8 : s 8 = .slice (some ⟨b1, off, none⟩) n cap' := hold 8 (by kernel_rfl)
            have f9 : s 9 = .int .i64 (n : Int) := hold 9 (by kernel_rfl)
            have f10 : s 10 = .bool false := hold 10 (by kernel_rfl)
            have f17 : s 17 = .slice (some ⟨b1, off, none⟩) n cap' := hnew 0 17 (by kernel_rfl)
            have f18 : s 18 = .int .i64 (k : Int) := hnew 1 18 (by kernel_rfl)
            have f19 : s 19 = .pointer (some ⟨b1, off + k * 3, none⟩) := hnew 2 19 (by kernel_rfl)
            have f20 : s 20 = vv vk vn vs := hnew 3 20 (by kernel_rfl)
            have f21 : s 21 = .bool true := hnew 4 21 (by kernel_rfl)
            have f22 : s 22 = .bool false := hnew 5 22 (by kernel_rfl)
            have f23 : s 23 = .bool false := hnew 6 23 (by kernel_rfl)
            have f24 : s 24 = .slice (some ⟨b1, off, none⟩) n cap' := hnew 7 24 (by kernel_rfl)
            have f25 : s 25 = .int .i64 (k : Int) := hnew 8 25 (by kernel_rfl)
            have f26 : s 26 = .pointer (some ⟨b1, off + k * 3, none⟩) := hnew 9 26 (by kernel_rfl)
            have f27 : s 27 = .pointer (some ⟨b1, off + k * 3, none⟩) := hnew 10 27 (by kernel_rfl)
            have f28 : s 28 = .int .i64 vk := hnew 11 28 (by kernel_rfl)
            have f29 : s 29 = .slice (some ⟨b2, off', none⟩) n cap := hnew 12 29 (by kernel_rfl)
            have f30 : s 30 = .int .i64 (k : Int) := hnew 13 30 (by kernel_rfl)
            have f31 : s 31 = .pointer (some ⟨b2, off' + k * 2, none⟩) := hnew 14 31 (by kernel_rfl)
            have f32 : s 32 = .pointer (some ⟨b2, off' + k * 2 + 1, none⟩) := hnew 15 32 (by kernel_rfl)
            have f33 : s 33 = .int .i64 ck := hnew 16 33 (by kernel_rfl)
            have f34 : s 34 = .bool true := hnew 17 34 (by kernel_rfl)
            have f35 : s 35 = .bool true := hnew 18 35 (by kernel_rfl)
            change Exit.then _ _ .normal ⟨#[s 0, s 1, s 2, s 3, s 4, s 5, s 6, s 7, s 8, s 9, s 10, s 11, s 12, s 13, s 14, s 15, s 16, s 17, s 18, s 19, s 20, s 21, s 22, s 23, s 24, s 25, s 26, s 27, s 28, s 29, s 30, s 31, s 32, s 33, s 34, s 35], _⟩ _
            simp only [f0, f1, f2, f3, f5, f6, f7, f8, f9, f10, f17, f18, f19, f20, f21, f22, f23, f24, f25, f26, f27, f28, f29, f30, f31, f32, f33, f34, f35]
            clear hold hnew
            go_wp2
            go_ret
            exact ⟨by rw [HF.out]; rfl, hE.trans hEr⟩
      · obtain rfl : k = n := by omega
        have HF : Hid (fitsL l r = true) := Lib.hid (by
          have := HT.out
          rwa [List.take_of_length_le (by rw [HL.out]; exact Nat.le_refl _), List.take_of_length_le (by rw [HM.out]; exact Nat.le_refl _)] at this)
        go_wp2
        go_ret
        exact ⟨by rw [HF.out]; rfl, hE⟩
  · have hne : ¬ (n : Int) = (m : Int) := by omega
    have HF : Hid (fitsL l r = false) := Lib.hid (fitsL_ne (by rw [HL.out, HM.out]; omega))
    go_enter Try.func31, Try.ntmps31
    go_wp2
    go_ret
    exact ⟨by rw [HF.out]; rfl, Ev.refl _⟩
end Go.Proofs.Ytkjodlngpdihhaa
