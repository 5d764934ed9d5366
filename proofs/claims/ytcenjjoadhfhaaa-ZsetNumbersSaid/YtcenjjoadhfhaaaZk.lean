/-
  The book of rows: two sets held against one another; a set of one row.
-/
import Derived.Test.YtcenjjoadhfhaaaZx
import Derived.Test.YtcenjjoadhfhaaaKeep5
namespace Go.Proofs.Ytcenjjoadhfhaaa
open Go.RowKit
set_option linter.unusedVariables false

theorem order_same {p p' : Int} (h : Part p) (h' : Part p') : (FloatKind.f64.format.order (fl p) (fl p') == some .eq) = decide (p = p') := by
  obtain ⟨n, rfl, hn⟩ := h.nat
  obtain ⟨m, rfl, hm⟩ := h'.nat
  rw [order_fl n m (by omega) (by omega)]
  rcases Nat.lt_trichotomy n m with h1 | h1 | h1
  · rw [Nat.compare_eq_lt.2 h1, decide_eq_false (by omega)]; rfl
  · subst h1; simp
  · rw [Nat.compare_eq_gt.2 h1, decide_eq_false (by omega)]; rfl
theorem run_neq_tal {ρ : Operand → Value} {o : Oper} {x y : Operand} {p q p' q' : Int} (ho : o.op = .binOp .neq 22 x y 22) (hx : ρ x = .complex .f64 (fl p) (fl q)) (hy : ρ y = .complex .f64 (fl p') (fl q')) (h1 : Part p) (h2 : Part q) (h3 : Part p') (h4 : Part q') (w : World) :
    (execOp ρ o).run Try.prog w = .ok (.value (.bool (!(decide (p = p') && decide (q = q'))))) w := by
  have o1 := order_same h1 h3
  have o2 := order_same h2 h4
  unfold execOp
  rw [ho]
  rw [← o1, ← o2]
  simp [hx, hy, go_sem]
theorem items_take_step {Z Y : List J} {k : Nat} {z y : J} (h : itemsOf (Z.take k) = itemsOf (Y.take k)) (hz : Z[k]? = some z) (hy : Y[k]? = some y) (he : z.2 = y.2) : itemsOf (Z.take (k + 1)) = itemsOf (Y.take (k + 1)) := by
  obtain ⟨hk1, rfl⟩ := List.getElem?_eq_some_iff.1 hz
  obtain ⟨hk2, rfl⟩ := List.getElem?_eq_some_iff.1 hy
  rw [List.take_succ_eq_append_getElem hk1, List.take_succ_eq_append_getElem hk2]
  unfold itemsOf at *
  rw [List.map_append, List.map_append, h]
  simp [he]
theorem items_ne {Z Y : List J} {k : Nat} {z y : J} (hz : Z[k]? = some z) (hy : Y[k]? = some y) (he : z.2 ≠ y.2) : decide (itemsOf Z = itemsOf Y) = false := decide_eq_false fun e => by
  have h1 : (itemsOf Z)[k]? = some z.2 := by unfold itemsOf; rw [List.getElem?_map, hz]; rfl
  have h2 : (itemsOf Y)[k]? = some y.2 := by unfold itemsOf; rw [List.getElem?_map, hy]; rfl
  rw [e, h2] at h1
  exact he (Option.some.inj h1).symm

set_option maxRecDepth 100000 in
set_option maxHeartbeats 4000000 in
theorem keep_set {b0 b0' : Nat} {A B : Option Addr} {n m cap cap2 : Nat} {Z Y : List J} (w : World) (h : Zs b0 w A n cap Z) (h' : Zs b0' w B m cap2 Y) (hp : AllParts Z) (hp' : AllParts Y) :
    Calls Try.prog 8 #[.slice A n cap, .slice B m cap2] w fun e w' => e = .returned (.bool (decide (itemsOf Z = itemsOf Y))) ∧ Ev w w' := by
  have hn := h.le
  have hm := h.max
  have hn' := h'.le
  have hm' := h'.max
  have HN := Lib.hid h.len
  have HM := Lib.hid h'.len
  have HP := Lib.hid hp
  have HP' := Lib.hid hp'
  have hmix : Try.prog.follows .mixedOrders = true := by kernel_rfl
  clear hp hp'
  by_cases hnn : n = m
  · subst hnn
    obtain ⟨res, hres⟩ : ∃ res, decide (itemsOf Z = itemsOf Y) = res := ⟨_, rfl⟩
    rw [hres]
    have HRES := Lib.hid hres
    clear hres
    go_enter Try.func8, Try.ntmps8
    go_wp2
    go_loopw [5] (fun i wr => ∃ k : Nat, k ≤ n ∧ i = .int .i64 (k : Int) ∧ Hid (itemsOf (Z.take k) = itemsOf (Y.take k)) ∧ Ev w wr) (fun i _ => n - (intOf i).toNat)
    case atStart => exact ⟨0, Nat.zero_le _, rfl, Lib.hid (by simp), Ev.refl _⟩
    case round =>
      obtain ⟨k, hk, rfl, HT, hE⟩ := hrel
      by_cases hlt : k < n
      · obtain ⟨b1, off1, z, rfl, hb1, _, hx, c0, c1, hv⟩ := (h.ev hE).at hlt
        obtain ⟨b2, off2, y, rfl, hb2, _, hy, d0, d1, hv'⟩ := (h'.ev hE).at hlt
        have HPP := Lib.hid (And.intro (HP.out z (List.mem_of_getElem? hx)) (HP'.out y (List.mem_of_getElem? hy)))
        have HX := Lib.hid hx
        have HY := Lib.hid hy
        have HL := Lib.hid (fun w1 (h1 : Ev wr w1) => keep_row w1 (hv.ev h1) (hv'.ev h1))
        obtain ⟨⟨A1, n1, cap1⟩, r1, p1, q1⟩ := z
        obtain ⟨⟨A2, n2, cap2_⟩, r2, p2, q2⟩ := y
        unfold jrow at c0 d0
        unfold jtal at c1 d1
        simp only at c0 c1 d0 d1 HL HPP
        replace HPP : Hid (Part p1 ∧ Part q1 ∧ Part p2 ∧ Part q2) := Lib.hid ⟨HPP.out.1.1, HPP.out.1.2, HPP.out.2.1, HPP.out.2.2⟩
        clear hx hy hv hv' h h'
        have i1 : (0 : Int) ≤ (k : Int) := by omega
        have i2 : (k : Int) < (n : Int) := by omega
        by_cases hr : r1 = r2
        · have e : eqL r1 r2 = true := decide_eq_true hr
          rw [e] at HL
          by_cases ht : p1 = p2 ∧ q1 = q2
          · have HEQ : Hid (Value.bool (!(decide (p1 = p2) && decide (q1 = q2))) = .bool false) := Lib.hid (by rw [decide_eq_true ht.1, decide_eq_true ht.2]; rfl)
            have HT' := Lib.hid (items_take_step HT.out HX.out HY.out (by simp [hr, ht.1, ht.2]))
            clear hr ht e
            go_wp2_with fail
            refine wp_region_slots hmix [fun v _ => v = .slice (some ⟨b1, off1, none⟩) n cap, fun v _ => v = .int .i64 (k : Int), fun v _ => v = .pointer (some ⟨b1, off1 + k * 2, none⟩), fun v _ => v = .pointer (some ⟨b1, off1 + k * 2, none⟩), fun v _ => v = .slice A1 n1 cap1, fun v _ => v = .slice (some ⟨b2, off2, none⟩) n cap2, fun v _ => v = .int .i64 (k : Int), fun v _ => v = .pointer (some ⟨b2, off2 + k * 2, none⟩), fun v _ => v = .pointer (some ⟨b2, off2 + k * 2, none⟩), fun v _ => v = .slice A2 n2 cap2_, fun v _ => v = .bool true, fun v _ => v = .bool false, fun v _ => v = .bool false, fun v _ => v = .slice (some ⟨b1, off1, none⟩) n cap, fun v _ => v = .int .i64 (k : Int), fun v _ => v = .pointer (some ⟨b1, off1 + k * 2, none⟩), fun v _ => v = .pointer (some ⟨b1, off1 + k * 2 + 1, none⟩), fun v _ => v = .complex .f64 (fl p1) (fl q1), fun v _ => v = .slice (some ⟨b2, off2, none⟩) n cap2, fun v _ => v = .int .i64 (k : Int), fun v _ => v = .pointer (some ⟨b2, off2 + k * 2, none⟩), fun v _ => v = .pointer (some ⟨b2, off2 + k * 2 + 1, none⟩), fun v _ => v = .complex .f64 (fl p2) (fl q2), fun v _ => v = .bool false, fun v _ => v = .bool false]
              42 rfl (by kernel_rfl) ⟨mono_eq _, mono_eq _, mono_eq _, mono_eq _, mono_eq _, mono_eq _, mono_eq _, mono_eq _, mono_eq _, mono_eq _, mono_eq _, mono_eq _, mono_eq _, mono_eq _, mono_eq _, mono_eq _, mono_eq _, mono_eq _, mono_eq _, mono_eq _, mono_eq _, mono_eq _, mono_eq _, mono_eq _, mono_eq _, trivial⟩ ?_ ?_
            · refine ops_cons 0 ?_ (ops_cons 1 ?_ (ops_cons 2 ?_ (ops_cons 3 ?_ (ops_cons 4 ?_ (ops_cons 5 ?_ (ops_cons 6 ?_ (ops_cons 7 ?_ (ops_cons 8 ?_ (ops_cons 9 ?_ (ops_cons 10 ?_ (ops_cons 11 ?_ (ops_cons 12 ?_ (ops_cons 13 ?_ (ops_cons 14 ?_ (ops_cons 15 ?_ (ops_cons 16 ?_ (ops_cons 17 ?_ (ops_cons 18 ?_ (ops_cons 19 ?_ (ops_cons 20 ?_ (ops_cons 21 ?_ (ops_cons 22 ?_ (ops_cons 23 ?_ (ops_cons 24 ?_ (ops_nil 25)))))))))))))))))))))))))
              · refine op_value fun a w c => ⟨(wanted_plain rfl), _, run_move _ rfl w, (c.was 0 (by kernel_rfl) rfl)⟩
              · refine op_value fun a w c => ⟨(wanted_plain rfl), _, run_move _ rfl w, (c.was 5 (by kernel_rfl) rfl)⟩
              · refine op_value fun a w c => ⟨(wanted_plain rfl), .pointer (some ⟨b1, off1 + k * 2, none⟩), ?_, rfl⟩
                have e17 : a.eval (.tmp 17) = .slice (some ⟨b1, off1, none⟩) n cap := (c.new 0 17 (by kernel_rfl) (by kernel_rfl))
                have e18 : a.eval (.tmp 18) = .int .i64 (k : Int) := (c.new 1 18 (by kernel_rfl) (by kernel_rfl))
                generalize a.eval = ρ at e17 e18 ⊢
                simp [execOp, e17, e18, go_sem, i1, i2]
              · refine op_value fun a w c => ⟨(wanted_plain rfl), .pointer (some ⟨b1, off1 + k * 2, none⟩), ?_, rfl⟩
                have e19 : a.eval (.tmp 19) = .pointer (some ⟨b1, off1 + k * 2, none⟩) := (c.new 2 19 (by kernel_rfl) (by kernel_rfl))
                generalize a.eval = ρ at e19 ⊢
                simp [execOp, e19, go_sem]
              · refine op_value fun a w c => ⟨(wanted_plain rfl), .slice A1 n1 cap1, ?_, rfl⟩
                have e20 : a.eval (.tmp 20) = .pointer (some ⟨b1, off1 + k * 2, none⟩) := (c.new 3 20 (by kernel_rfl) (by kernel_rfl))
                have hc := (c.ev.cell (p := ⟨b1, off1 + k * 2, none⟩) hb1).trans c0
                generalize a.eval = ρ at e20 ⊢
                simp [execOp, e20, hc, go_sem]
              · refine op_value fun a w c => ⟨(wanted_plain rfl), _, run_move _ rfl w, (c.was 1 (by kernel_rfl) rfl)⟩
              · refine op_value fun a w c => ⟨(wanted_plain rfl), _, run_move _ rfl w, (c.was 5 (by kernel_rfl) rfl)⟩
              · refine op_value fun a w c => ⟨(wanted_plain rfl), .pointer (some ⟨b2, off2 + k * 2, none⟩), ?_, rfl⟩
                have e22 : a.eval (.tmp 22) = .slice (some ⟨b2, off2, none⟩) n cap2 := (c.new 5 22 (by kernel_rfl) (by kernel_rfl))
                have e23 : a.eval (.tmp 23) = .int .i64 (k : Int) := (c.new 6 23 (by kernel_rfl) (by kernel_rfl))
                generalize a.eval = ρ at e22 e23 ⊢
                simp [execOp, e22, e23, go_sem, i1, i2]
              · refine op_value fun a w c => ⟨(wanted_plain rfl), .pointer (some ⟨b2, off2 + k * 2, none⟩), ?_, rfl⟩
                have e24 : a.eval (.tmp 24) = .pointer (some ⟨b2, off2 + k * 2, none⟩) := (c.new 7 24 (by kernel_rfl) (by kernel_rfl))
                generalize a.eval = ρ at e24 ⊢
                simp [execOp, e24, go_sem]
              · refine op_value fun a w c => ⟨(wanted_plain rfl), .slice A2 n2 cap2_, ?_, rfl⟩
                have e25 : a.eval (.tmp 25) = .pointer (some ⟨b2, off2 + k * 2, none⟩) := (c.new 8 25 (by kernel_rfl) (by kernel_rfl))
                have hc := (c.ev.cell (p := ⟨b2, off2 + k * 2, none⟩) hb2).trans d0
                generalize a.eval = ρ at e25 ⊢
                simp [execOp, e25, hc, go_sem]
              · refine op_call fun a w c => ⟨(wanted_plain rfl), 25, #[.slice A1 n1 cap1, .slice A2 n2 cap2_], ?_, ?_⟩
                · rw [run_call 25 _ _ rfl (by kernel_rfl)]
                  have e21 : a.eval (.tmp 21) = .slice A1 n1 cap1 := (c.new 4 21 (by kernel_rfl) (by kernel_rfl))
                  have e26 : a.eval (.tmp 26) = .slice A2 n2 cap2_ := (c.new 9 26 (by kernel_rfl) (by kernel_rfl))
                  simp [e21, e26]
                · refine (HL.out w c.ev).mono ?_
                  rintro e w2 ⟨rfl, hE⟩
                  exact ⟨_, rfl, hE, rfl⟩
              · refine op_value fun a w c => ⟨(wanted_plain rfl), .bool false, ?_, rfl⟩
                have e27 : a.eval (.tmp 27) = .bool true := (c.new 10 27 (by kernel_rfl) (by kernel_rfl))
                generalize a.eval = ρ at e27 ⊢
                simp [execOp, e27, go_sem]
              · refine op_value fun a w c => ⟨(wanted_plain rfl), _, run_move _ rfl w, (c.new 11 28 (by kernel_rfl) (by kernel_rfl))⟩
              · refine op_value fun a w c => ⟨(wanted_yes rfl (by kernel_rfl) (c.new 12 29 (by kernel_rfl) (by kernel_rfl))), _, run_move _ rfl w, (c.was 0 (by kernel_rfl) rfl)⟩
              · refine op_value fun a w c => ⟨(wanted_yes rfl (by kernel_rfl) (c.new 12 29 (by kernel_rfl) (by kernel_rfl))), _, run_move _ rfl w, (c.was 5 (by kernel_rfl) rfl)⟩
              · refine op_value fun a w c => ⟨(wanted_yes rfl (by kernel_rfl) (c.new 12 29 (by kernel_rfl) (by kernel_rfl))), .pointer (some ⟨b1, off1 + k * 2, none⟩), ?_, rfl⟩
                have e30 : a.eval (.tmp 30) = .slice (some ⟨b1, off1, none⟩) n cap := (c.new 13 30 (by kernel_rfl) (by kernel_rfl))
                have e31 : a.eval (.tmp 31) = .int .i64 (k : Int) := (c.new 14 31 (by kernel_rfl) (by kernel_rfl))
                generalize a.eval = ρ at e30 e31 ⊢
                simp [execOp, e30, e31, go_sem, i1, i2]
              · refine op_value fun a w c => ⟨(wanted_yes rfl (by kernel_rfl) (c.new 12 29 (by kernel_rfl) (by kernel_rfl))), .pointer (some ⟨b1, off1 + k * 2 + 1, none⟩), ?_, rfl⟩
                have e32 : a.eval (.tmp 32) = .pointer (some ⟨b1, off1 + k * 2, none⟩) := (c.new 15 32 (by kernel_rfl) (by kernel_rfl))
                generalize a.eval = ρ at e32 ⊢
                simp [execOp, e32, go_sem]
              · refine op_value fun a w c => ⟨(wanted_yes rfl (by kernel_rfl) (c.new 12 29 (by kernel_rfl) (by kernel_rfl))), .complex .f64 (fl p1) (fl q1), ?_, rfl⟩
                have e33 : a.eval (.tmp 33) = .pointer (some ⟨b1, off1 + k * 2 + 1, none⟩) := (c.new 16 33 (by kernel_rfl) (by kernel_rfl))
                have hc := (c.ev.cell (p := ⟨b1, off1 + k * 2 + 1, none⟩) hb1).trans c1
                generalize a.eval = ρ at e33 ⊢
                simp [execOp, e33, hc, go_sem]
              · refine op_value fun a w c => ⟨(wanted_yes rfl (by kernel_rfl) (c.new 12 29 (by kernel_rfl) (by kernel_rfl))), _, run_move _ rfl w, (c.was 1 (by kernel_rfl) rfl)⟩
              · refine op_value fun a w c => ⟨(wanted_yes rfl (by kernel_rfl) (c.new 12 29 (by kernel_rfl) (by kernel_rfl))), _, run_move _ rfl w, (c.was 5 (by kernel_rfl) rfl)⟩
              · refine op_value fun a w c => ⟨(wanted_yes rfl (by kernel_rfl) (c.new 12 29 (by kernel_rfl) (by kernel_rfl))), .pointer (some ⟨b2, off2 + k * 2, none⟩), ?_, rfl⟩
                have e35 : a.eval (.tmp 35) = .slice (some ⟨b2, off2, none⟩) n cap2 := (c.new 18 35 (by kernel_rfl) (by kernel_rfl))
                have e36 : a.eval (.tmp 36) = .int .i64 (k : Int) := (c.new 19 36 (by kernel_rfl) (by kernel_rfl))
                generalize a.eval = ρ at e35 e36 ⊢
                simp [execOp, e35, e36, go_sem, i1, i2]
              · refine op_value fun a w c => ⟨(wanted_yes rfl (by kernel_rfl) (c.new 12 29 (by kernel_rfl) (by kernel_rfl))), .pointer (some ⟨b2, off2 + k * 2 + 1, none⟩), ?_, rfl⟩
                have e37 : a.eval (.tmp 37) = .pointer (some ⟨b2, off2 + k * 2, none⟩) := (c.new 20 37 (by kernel_rfl) (by kernel_rfl))
                generalize a.eval = ρ at e37 ⊢
                simp [execOp, e37, go_sem]
              · refine op_value fun a w c => ⟨(wanted_yes rfl (by kernel_rfl) (c.new 12 29 (by kernel_rfl) (by kernel_rfl))), .complex .f64 (fl p2) (fl q2), ?_, rfl⟩
                have e38 : a.eval (.tmp 38) = .pointer (some ⟨b2, off2 + k * 2 + 1, none⟩) := (c.new 21 38 (by kernel_rfl) (by kernel_rfl))
                have hc := (c.ev.cell (p := ⟨b2, off2 + k * 2 + 1, none⟩) hb2).trans d1
                generalize a.eval = ρ at e38 ⊢
                simp [execOp, e38, hc, go_sem]
              · refine op_value fun a w c => ⟨(wanted_yes rfl (by kernel_rfl) (c.new 12 29 (by kernel_rfl) (by kernel_rfl))), _, run_neq_tal rfl ((c.new 17 34 (by kernel_rfl) (by kernel_rfl)) : a.eval (.tmp 34) = .complex .f64 (fl p1) (fl q1)) ((c.new 22 39 (by kernel_rfl) (by kernel_rfl)) : a.eval (.tmp 39) = .complex .f64 (fl p2) (fl q2)) HPP.out.1 HPP.out.2.1 HPP.out.2.2.1 HPP.out.2.2.2 w, HEQ.out⟩
              · refine op_value fun a w c => ⟨(wanted_plain rfl), _, run_pick_false rfl (c.new 12 29 (by kernel_rfl) (by kernel_rfl)) w, (c.new 23 40 (by kernel_rfl) (by kernel_rfl))⟩
            intro s w4 hEr hold hnew
            have f0 : s 0 = .slice (some ⟨b1, off1, none⟩) n cap := hold 0 (by kernel_rfl)
            have f1 : s 1 = .slice (some ⟨b2, off2, none⟩) n cap2 := hold 1 (by kernel_rfl)
            have f2 : s 2 = undef := hold 2 (by kernel_rfl)
            have f3 : s 3 = undef := hold 3 (by kernel_rfl)
            have f4 : s 4 = u4 := hold 4 (by kernel_rfl)
            have f5 : s 5 = .int .i64 (k : Int) := hold 5 (by kernel_rfl)
            have f6 : s 6 = .slice (some ⟨b1, off1, none⟩) n cap := hold 6 (by kernel_rfl)
            have f7 : s 7 = .int .i64 (n : Int) := hold 7 (by kernel_rfl)
            have f8 : s 8 = .slice (some ⟨b2, off2, none⟩) n cap2 := hold 8 (by kernel_rfl)
            have f9 : s 9 = .int .i64 (n : Int) := hold 9 (by kernel_rfl)
            have f10 : s 10 = .bool false := hold 10 (by kernel_rfl)
            have f17 : s 17 = .slice (some ⟨b1, off1, none⟩) n cap := hnew 0 17 (by kernel_rfl)
            have f18 : s 18 = .int .i64 (k : Int) := hnew 1 18 (by kernel_rfl)
            have f19 : s 19 = .pointer (some ⟨b1, off1 + k * 2, none⟩) := hnew 2 19 (by kernel_rfl)
            have f20 : s 20 = .pointer (some ⟨b1, off1 + k * 2, none⟩) := hnew 3 20 (by kernel_rfl)
            have f21 : s 21 = .slice A1 n1 cap1 := hnew 4 21 (by kernel_rfl)
            have f22 : s 22 = .slice (some ⟨b2, off2, none⟩) n cap2 := hnew 5 22 (by kernel_rfl)
            have f23 : s 23 = .int .i64 (k : Int) := hnew 6 23 (by kernel_rfl)
            have f24 : s 24 = .pointer (some ⟨b2, off2 + k * 2, none⟩) := hnew 7 24 (by kernel_rfl)
            have f25 : s 25 = .pointer (some ⟨b2, off2 + k * 2, none⟩) := hnew 8 25 (by kernel_rfl)
            have f26 : s 26 = .slice A2 n2 cap2_ := hnew 9 26 (by kernel_rfl)
            have f27 : s 27 = .bool true := hnew 10 27 (by kernel_rfl)
            have f28 : s 28 = .bool false := hnew 11 28 (by kernel_rfl)
            have f29 : s 29 = .bool false := hnew 12 29 (by kernel_rfl)
            have f30 : s 30 = .slice (some ⟨b1, off1, none⟩) n cap := hnew 13 30 (by kernel_rfl)
            have f31 : s 31 = .int .i64 (k : Int) := hnew 14 31 (by kernel_rfl)
            have f32 : s 32 = .pointer (some ⟨b1, off1 + k * 2, none⟩) := hnew 15 32 (by kernel_rfl)
            have f33 : s 33 = .pointer (some ⟨b1, off1 + k * 2 + 1, none⟩) := hnew 16 33 (by kernel_rfl)
            have f34 : s 34 = .complex .f64 (fl p1) (fl q1) := hnew 17 34 (by kernel_rfl)
            have f35 : s 35 = .slice (some ⟨b2, off2, none⟩) n cap2 := hnew 18 35 (by kernel_rfl)
            have f36 : s 36 = .int .i64 (k : Int) := hnew 19 36 (by kernel_rfl)
            have f37 : s 37 = .pointer (some ⟨b2, off2 + k * 2, none⟩) := hnew 20 37 (by kernel_rfl)
            have f38 : s 38 = .pointer (some ⟨b2, off2 + k * 2 + 1, none⟩) := hnew 21 38 (by kernel_rfl)
            have f39 : s 39 = .complex .f64 (fl p2) (fl q2) := hnew 22 39 (by kernel_rfl)
            have f40 : s 40 = .bool false := hnew 23 40 (by kernel_rfl)
            have f41 : s 41 = .bool false := hnew 24 41 (by kernel_rfl)
            change Exit.then _ _ .normal ⟨#[s 0, s 1, s 2, s 3, s 4, s 5, s 6, s 7, s 8, s 9, s 10, s 11, s 12, s 13, s 14, s 15, s 16, s 17, s 18, s 19, s 20, s 21, s 22, s 23, s 24, s 25, s 26, s 27, s 28, s 29, s 30, s 31, s 32, s 33, s 34, s 35, s 36, s 37, s 38, s 39, s 40, s 41], _⟩ _
            simp only [f0, f1, f2, f3, f4, f5, f6, f7, f8, f9, f10, f17, f18, f19, f20, f21, f22, f23, f24, f25, f26, f27, f28, f29, f30, f31, f32, f33, f34, f35, f36, f37, f38, f39, f40, f41]
            clear hold hnew
            generalize s 11 = u11
            generalize s 12 = u12
            generalize s 13 = u13
            generalize s 14 = u14
            generalize s 15 = u15
            generalize s 16 = u16
            go_wp2
            go_roundw
            case rel => exact ⟨k + 1, by omega, by go_num, HT', hE.trans hEr⟩
            case measure => simp [intOf]; omega
          · have HEQ : Hid (Value.bool (!(decide (p1 = p2) && decide (q1 = q2))) = .bool true) := Lib.hid (by
              by_cases h1 : p1 = p2
              · rw [decide_eq_false (p := q1 = q2) (fun h2 => ht ⟨h1, h2⟩), Bool.and_false]; rfl
              · rw [decide_eq_false h1]; rfl)
            have HF := Lib.hid (items_ne HX.out HY.out (by simp only [ne_eq, Prod.mk.injEq, not_and]; intro _ h1 h2; exact ht ⟨h1, h2⟩))
            clear hr ht e
            go_wp2_with fail
            refine wp_region_slots hmix [fun v _ => v = .slice (some ⟨b1, off1, none⟩) n cap, fun v _ => v = .int .i64 (k : Int), fun v _ => v = .pointer (some ⟨b1, off1 + k * 2, none⟩), fun v _ => v = .pointer (some ⟨b1, off1 + k * 2, none⟩), fun v _ => v = .slice A1 n1 cap1, fun v _ => v = .slice (some ⟨b2, off2, none⟩) n cap2, fun v _ => v = .int .i64 (k : Int), fun v _ => v = .pointer (some ⟨b2, off2 + k * 2, none⟩), fun v _ => v = .pointer (some ⟨b2, off2 + k * 2, none⟩), fun v _ => v = .slice A2 n2 cap2_, fun v _ => v = .bool true, fun v _ => v = .bool false, fun v _ => v = .bool false, fun v _ => v = .slice (some ⟨b1, off1, none⟩) n cap, fun v _ => v = .int .i64 (k : Int), fun v _ => v = .pointer (some ⟨b1, off1 + k * 2, none⟩), fun v _ => v = .pointer (some ⟨b1, off1 + k * 2 + 1, none⟩), fun v _ => v = .complex .f64 (fl p1) (fl q1), fun v _ => v = .slice (some ⟨b2, off2, none⟩) n cap2, fun v _ => v = .int .i64 (k : Int), fun v _ => v = .pointer (some ⟨b2, off2 + k * 2, none⟩), fun v _ => v = .pointer (some ⟨b2, off2 + k * 2 + 1, none⟩), fun v _ => v = .complex .f64 (fl p2) (fl q2), fun v _ => v = .bool true, fun v _ => v = .bool true]
              42 rfl (by kernel_rfl) ⟨mono_eq _, mono_eq _, mono_eq _, mono_eq _, mono_eq _, mono_eq _, mono_eq _, mono_eq _, mono_eq _, mono_eq _, mono_eq _, mono_eq _, mono_eq _, mono_eq _, mono_eq _, mono_eq _, mono_eq _, mono_eq _, mono_eq _, mono_eq _, mono_eq _, mono_eq _, mono_eq _, mono_eq _, mono_eq _, trivial⟩ ?_ ?_
            · refine ops_cons 0 ?_ (ops_cons 1 ?_ (ops_cons 2 ?_ (ops_cons 3 ?_ (ops_cons 4 ?_ (ops_cons 5 ?_ (ops_cons 6 ?_ (ops_cons 7 ?_ (ops_cons 8 ?_ (ops_cons 9 ?_ (ops_cons 10 ?_ (ops_cons 11 ?_ (ops_cons 12 ?_ (ops_cons 13 ?_ (ops_cons 14 ?_ (ops_cons 15 ?_ (ops_cons 16 ?_ (ops_cons 17 ?_ (ops_cons 18 ?_ (ops_cons 19 ?_ (ops_cons 20 ?_ (ops_cons 21 ?_ (ops_cons 22 ?_ (ops_cons 23 ?_ (ops_cons 24 ?_ (ops_nil 25)))))))))))))))))))))))))
              · refine op_value fun a w c => ⟨(wanted_plain rfl), _, run_move _ rfl w, (c.was 0 (by kernel_rfl) rfl)⟩
              · refine op_value fun a w c => ⟨(wanted_plain rfl), _, run_move _ rfl w, (c.was 5 (by kernel_rfl) rfl)⟩
              · refine op_value fun a w c => ⟨(wanted_plain rfl), .pointer (some ⟨b1, off1 + k * 2, none⟩), ?_, rfl⟩
                have e17 : a.eval (.tmp 17) = .slice (some ⟨b1, off1, none⟩) n cap := (c.new 0 17 (by kernel_rfl) (by kernel_rfl))
                have e18 : a.eval (.tmp 18) = .int .i64 (k : Int) := (c.new 1 18 (by kernel_rfl) (by kernel_rfl))
                generalize a.eval = ρ at e17 e18 ⊢
                simp [execOp, e17, e18, go_sem, i1, i2]
              · refine op_value fun a w c => ⟨(wanted_plain rfl), .pointer (some ⟨b1, off1 + k * 2, none⟩), ?_, rfl⟩
                have e19 : a.eval (.tmp 19) = .pointer (some ⟨b1, off1 + k * 2, none⟩) := (c.new 2 19 (by kernel_rfl) (by kernel_rfl))
                generalize a.eval = ρ at e19 ⊢
                simp [execOp, e19, go_sem]
              · refine op_value fun a w c => ⟨(wanted_plain rfl), .slice A1 n1 cap1, ?_, rfl⟩
                have e20 : a.eval (.tmp 20) = .pointer (some ⟨b1, off1 + k * 2, none⟩) := (c.new 3 20 (by kernel_rfl) (by kernel_rfl))
                have hc := (c.ev.cell (p := ⟨b1, off1 + k * 2, none⟩) hb1).trans c0
                generalize a.eval = ρ at e20 ⊢
                simp [execOp, e20, hc, go_sem]
              · refine op_value fun a w c => ⟨(wanted_plain rfl), _, run_move _ rfl w, (c.was 1 (by kernel_rfl) rfl)⟩
              · refine op_value fun a w c => ⟨(wanted_plain rfl), _, run_move _ rfl w, (c.was 5 (by kernel_rfl) rfl)⟩
              · refine op_value fun a w c => ⟨(wanted_plain rfl), .pointer (some ⟨b2, off2 + k * 2, none⟩), ?_, rfl⟩
                have e22 : a.eval (.tmp 22) = .slice (some ⟨b2, off2, none⟩) n cap2 := (c.new 5 22 (by kernel_rfl) (by kernel_rfl))
                have e23 : a.eval (.tmp 23) = .int .i64 (k : Int) := (c.new 6 23 (by kernel_rfl) (by kernel_rfl))
                generalize a.eval = ρ at e22 e23 ⊢
                simp [execOp, e22, e23, go_sem, i1, i2]
              · refine op_value fun a w c => ⟨(wanted_plain rfl), .pointer (some ⟨b2, off2 + k * 2, none⟩), ?_, rfl⟩
                have e24 : a.eval (.tmp 24) = .pointer (some ⟨b2, off2 + k * 2, none⟩) := (c.new 7 24 (by kernel_rfl) (by kernel_rfl))
                generalize a.eval = ρ at e24 ⊢
                simp [execOp, e24, go_sem]
              · refine op_value fun a w c => ⟨(wanted_plain rfl), .slice A2 n2 cap2_, ?_, rfl⟩
                have e25 : a.eval (.tmp 25) = .pointer (some ⟨b2, off2 + k * 2, none⟩) := (c.new 8 25 (by kernel_rfl) (by kernel_rfl))
                have hc := (c.ev.cell (p := ⟨b2, off2 + k * 2, none⟩) hb2).trans d0
                generalize a.eval = ρ at e25 ⊢
                simp [execOp, e25, hc, go_sem]
              · refine op_call fun a w c => ⟨(wanted_plain rfl), 25, #[.slice A1 n1 cap1, .slice A2 n2 cap2_], ?_, ?_⟩
                · rw [run_call 25 _ _ rfl (by kernel_rfl)]
                  have e21 : a.eval (.tmp 21) = .slice A1 n1 cap1 := (c.new 4 21 (by kernel_rfl) (by kernel_rfl))
                  have e26 : a.eval (.tmp 26) = .slice A2 n2 cap2_ := (c.new 9 26 (by kernel_rfl) (by kernel_rfl))
                  simp [e21, e26]
                · refine (HL.out w c.ev).mono ?_
                  rintro e w2 ⟨rfl, hE⟩
                  exact ⟨_, rfl, hE, rfl⟩
              · refine op_value fun a w c => ⟨(wanted_plain rfl), .bool false, ?_, rfl⟩
                have e27 : a.eval (.tmp 27) = .bool true := (c.new 10 27 (by kernel_rfl) (by kernel_rfl))
                generalize a.eval = ρ at e27 ⊢
                simp [execOp, e27, go_sem]
              · refine op_value fun a w c => ⟨(wanted_plain rfl), _, run_move _ rfl w, (c.new 11 28 (by kernel_rfl) (by kernel_rfl))⟩
              · refine op_value fun a w c => ⟨(wanted_yes rfl (by kernel_rfl) (c.new 12 29 (by kernel_rfl) (by kernel_rfl))), _, run_move _ rfl w, (c.was 0 (by kernel_rfl) rfl)⟩
              · refine op_value fun a w c => ⟨(wanted_yes rfl (by kernel_rfl) (c.new 12 29 (by kernel_rfl) (by kernel_rfl))), _, run_move _ rfl w, (c.was 5 (by kernel_rfl) rfl)⟩
              · refine op_value fun a w c => ⟨(wanted_yes rfl (by kernel_rfl) (c.new 12 29 (by kernel_rfl) (by kernel_rfl))), .pointer (some ⟨b1, off1 + k * 2, none⟩), ?_, rfl⟩
                have e30 : a.eval (.tmp 30) = .slice (some ⟨b1, off1, none⟩) n cap := (c.new 13 30 (by kernel_rfl) (by kernel_rfl))
                have e31 : a.eval (.tmp 31) = .int .i64 (k : Int) := (c.new 14 31 (by kernel_rfl) (by kernel_rfl))
                generalize a.eval = ρ at e30 e31 ⊢
                simp [execOp, e30, e31, go_sem, i1, i2]
              · refine op_value fun a w c => ⟨(wanted_yes rfl (by kernel_rfl) (c.new 12 29 (by kernel_rfl) (by kernel_rfl))), .pointer (some ⟨b1, off1 + k * 2 + 1, none⟩), ?_, rfl⟩
                have e32 : a.eval (.tmp 32) = .pointer (some ⟨b1, off1 + k * 2, none⟩) := (c.new 15 32 (by kernel_rfl) (by kernel_rfl))
                generalize a.eval = ρ at e32 ⊢
                simp [execOp, e32, go_sem]
              · refine op_value fun a w c => ⟨(wanted_yes rfl (by kernel_rfl) (c.new 12 29 (by kernel_rfl) (by kernel_rfl))), .complex .f64 (fl p1) (fl q1), ?_, rfl⟩
                have e33 : a.eval (.tmp 33) = .pointer (some ⟨b1, off1 + k * 2 + 1, none⟩) := (c.new 16 33 (by kernel_rfl) (by kernel_rfl))
                have hc := (c.ev.cell (p := ⟨b1, off1 + k * 2 + 1, none⟩) hb1).trans c1
                generalize a.eval = ρ at e33 ⊢
                simp [execOp, e33, hc, go_sem]
              · refine op_value fun a w c => ⟨(wanted_yes rfl (by kernel_rfl) (c.new 12 29 (by kernel_rfl) (by kernel_rfl))), _, run_move _ rfl w, (c.was 1 (by kernel_rfl) rfl)⟩
              · refine op_value fun a w c => ⟨(wanted_yes rfl (by kernel_rfl) (c.new 12 29 (by kernel_rfl) (by kernel_rfl))), _, run_move _ rfl w, (c.was 5 (by kernel_rfl) rfl)⟩
              · refine op_value fun a w c => ⟨(wanted_yes rfl (by kernel_rfl) (c.new 12 29 (by kernel_rfl) (by kernel_rfl))), .pointer (some ⟨b2, off2 + k * 2, none⟩), ?_, rfl⟩
                have e35 : a.eval (.tmp 35) = .slice (some ⟨b2, off2, none⟩) n cap2 := (c.new 18 35 (by kernel_rfl) (by kernel_rfl))
                have e36 : a.eval (.tmp 36) = .int .i64 (k : Int) := (c.new 19 36 (by kernel_rfl) (by kernel_rfl))
                generalize a.eval = ρ at e35 e36 ⊢
                simp [execOp, e35, e36, go_sem, i1, i2]
              · refine op_value fun a w c => ⟨(wanted_yes rfl (by kernel_rfl) (c.new 12 29 (by kernel_rfl) (by kernel_rfl))), .pointer (some ⟨b2, off2 + k * 2 + 1, none⟩), ?_, rfl⟩
                have e37 : a.eval (.tmp 37) = .pointer (some ⟨b2, off2 + k * 2, none⟩) := (c.new 20 37 (by kernel_rfl) (by kernel_rfl))
                generalize a.eval = ρ at e37 ⊢
                simp [execOp, e37, go_sem]
              · refine op_value fun a w c => ⟨(wanted_yes rfl (by kernel_rfl) (c.new 12 29 (by kernel_rfl) (by kernel_rfl))), .complex .f64 (fl p2) (fl q2), ?_, rfl⟩
                have e38 : a.eval (.tmp 38) = .pointer (some ⟨b2, off2 + k * 2 + 1, none⟩) := (c.new 21 38 (by kernel_rfl) (by kernel_rfl))
                have hc := (c.ev.cell (p := ⟨b2, off2 + k * 2 + 1, none⟩) hb2).trans d1
                generalize a.eval = ρ at e38 ⊢
                simp [execOp, e38, hc, go_sem]
              · refine op_value fun a w c => ⟨(wanted_yes rfl (by kernel_rfl) (c.new 12 29 (by kernel_rfl) (by kernel_rfl))), _, run_neq_tal rfl ((c.new 17 34 (by kernel_rfl) (by kernel_rfl)) : a.eval (.tmp 34) = .complex .f64 (fl p1) (fl q1)) ((c.new 22 39 (by kernel_rfl) (by kernel_rfl)) : a.eval (.tmp 39) = .complex .f64 (fl p2) (fl q2)) HPP.out.1 HPP.out.2.1 HPP.out.2.2.1 HPP.out.2.2.2 w, HEQ.out⟩
              · refine op_value fun a w c => ⟨(wanted_plain rfl), _, run_pick_false rfl (c.new 12 29 (by kernel_rfl) (by kernel_rfl)) w, (c.new 23 40 (by kernel_rfl) (by kernel_rfl))⟩
            intro s w4 hEr hold hnew
            have f0 : s 0 = .slice (some ⟨b1, off1, none⟩) n cap := hold 0 (by kernel_rfl)
            have f1 : s 1 = .slice (some ⟨b2, off2, none⟩) n cap2 := hold 1 (by kernel_rfl)
            have f2 : s 2 = undef := hold 2 (by kernel_rfl)
            have f3 : s 3 = undef := hold 3 (by kernel_rfl)
            have f4 : s 4 = u4 := hold 4 (by kernel_rfl)
            have f5 : s 5 = .int .i64 (k : Int) := hold 5 (by kernel_rfl)
            have f6 : s 6 = .slice (some ⟨b1, off1, none⟩) n cap := hold 6 (by kernel_rfl)
            have f7 : s 7 = .int .i64 (n : Int) := hold 7 (by kernel_rfl)
            have f8 : s 8 = .slice (some ⟨b2, off2, none⟩) n cap2 := hold 8 (by kernel_rfl)
            have f9 : s 9 = .int .i64 (n : Int) := hold 9 (by kernel_rfl)
            have f10 : s 10 = .bool false := hold 10 (by kernel_rfl)
            have f17 : s 17 = .slice (some ⟨b1, off1, none⟩) n cap := hnew 0 17 (by kernel_rfl)
            have f18 : s 18 = .int .i64 (k : Int) := hnew 1 18 (by kernel_rfl)
            have f19 : s 19 = .pointer (some ⟨b1, off1 + k * 2, none⟩) := hnew 2 19 (by kernel_rfl)
            have f20 : s 20 = .pointer (some ⟨b1, off1 + k * 2, none⟩) := hnew 3 20 (by kernel_rfl)
            have f21 : s 21 = .slice A1 n1 cap1 := hnew 4 21 (by kernel_rfl)
            have f22 : s 22 = .slice (some ⟨b2, off2, none⟩) n cap2 := hnew 5 22 (by kernel_rfl)
            have f23 : s 23 = .int .i64 (k : Int) := hnew 6 23 (by kernel_rfl)
            have f24 : s 24 = .pointer (some ⟨b2, off2 + k * 2, none⟩) := hnew 7 24 (by kernel_rfl)
            have f25 : s 25 = .pointer (some ⟨b2, off2 + k * 2, none⟩) := hnew 8 25 (by kernel_rfl)
            have f26 : s 26 = .slice A2 n2 cap2_ := hnew 9 26 (by kernel_rfl)
            have f27 : s 27 = .bool true := hnew 10 27 (by kernel_rfl)
            have f28 : s 28 = .bool false := hnew 11 28 (by kernel_rfl)
            have f29 : s 29 = .bool false := hnew 12 29 (by kernel_rfl)
            have f30 : s 30 = .slice (some ⟨b1, off1, none⟩) n cap := hnew 13 30 (by kernel_rfl)
            have f31 : s 31 = .int .i64 (k : Int) := hnew 14 31 (by kernel_rfl)
            have f32 : s 32 = .pointer (some ⟨b1, off1 + k * 2, none⟩) := hnew 15 32 (by kernel_rfl)
            have f33 : s 33 = .pointer (some ⟨b1, off1 + k * 2 + 1, none⟩) := hnew 16 33 (by kernel_rfl)
            have f34 : s 34 = .complex .f64 (fl p1) (fl q1) := hnew 17 34 (by kernel_rfl)
            have f35 : s 35 = .slice (some ⟨b2, off2, none⟩) n cap2 := hnew 18 35 (by kernel_rfl)
            have f36 : s 36 = .int .i64 (k : Int) := hnew 19 36 (by kernel_rfl)
            have f37 : s 37 = .pointer (some ⟨b2, off2 + k * 2, none⟩) := hnew 20 37 (by kernel_rfl)
            have f38 : s 38 = .pointer (some ⟨b2, off2 + k * 2 + 1, none⟩) := hnew 21 38 (by kernel_rfl)
            have f39 : s 39 = .complex .f64 (fl p2) (fl q2) := hnew 22 39 (by kernel_rfl)
            have f40 : s 40 = .bool true := hnew 23 40 (by kernel_rfl)
            have f41 : s 41 = .bool true := hnew 24 41 (by kernel_rfl)
            change Exit.then _ _ .normal ⟨#[s 0, s 1, s 2, s 3, s 4, s 5, s 6, s 7, s 8, s 9, s 10, s 11, s 12, s 13, s 14, s 15, s 16, s 17, s 18, s 19, s 20, s 21, s 22, s 23, s 24, s 25, s 26, s 27, s 28, s 29, s 30, s 31, s 32, s 33, s 34, s 35, s 36, s 37, s 38, s 39, s 40, s 41], _⟩ _
            simp only [f0, f1, f2, f3, f4, f5, f6, f7, f8, f9, f10, f17, f18, f19, f20, f21, f22, f23, f24, f25, f26, f27, f28, f29, f30, f31, f32, f33, f34, f35, f36, f37, f38, f39, f40, f41]
            clear hold hnew
            go_wp2
            go_ret
            exact ⟨by rw [← HRES.out, HF.out]; rfl, hE.trans hEr⟩
        · have e : eqL r1 r2 = false := decide_eq_false hr
          rw [e] at HL
          have HF := Lib.hid (items_ne HX.out HY.out (by simp only [ne_eq, Prod.mk.injEq, not_and]; intro h1; exact absurd h1 hr))
          clear hr e
          go_wp2_with fail
          refine wp_region_slots hmix [fun v _ => v = .slice (some ⟨b1, off1, none⟩) n cap, fun v _ => v = .int .i64 (k : Int), fun v _ => v = .pointer (some ⟨b1, off1 + k * 2, none⟩), fun v _ => v = .pointer (some ⟨b1, off1 + k * 2, none⟩), fun v _ => v = .slice A1 n1 cap1, fun v _ => v = .slice (some ⟨b2, off2, none⟩) n cap2, fun v _ => v = .int .i64 (k : Int), fun v _ => v = .pointer (some ⟨b2, off2 + k * 2, none⟩), fun v _ => v = .pointer (some ⟨b2, off2 + k * 2, none⟩), fun v _ => v = .slice A2 n2 cap2_, fun v _ => v = .bool false, fun v _ => v = .bool true, fun v _ => v = .bool true, fun _ _ => True, fun _ _ => True, fun _ _ => True, fun _ _ => True, fun _ _ => True, fun _ _ => True, fun _ _ => True, fun _ _ => True, fun _ _ => True, fun _ _ => True, fun _ _ => True, fun v _ => v = .bool true]
            42 rfl (by kernel_rfl) ⟨mono_eq _, mono_eq _, mono_eq _, mono_eq _, mono_eq _, mono_eq _, mono_eq _, mono_eq _, mono_eq _, mono_eq _, mono_eq _, mono_eq _, mono_eq _, mono_true, mono_true, mono_true, mono_true, mono_true, mono_true, mono_true, mono_true, mono_true, mono_true, mono_true, mono_eq _, trivial⟩ ?_ ?_
          · refine ops_cons 0 ?_ (ops_cons 1 ?_ (ops_cons 2 ?_ (ops_cons 3 ?_ (ops_cons 4 ?_ (ops_cons 5 ?_ (ops_cons 6 ?_ (ops_cons 7 ?_ (ops_cons 8 ?_ (ops_cons 9 ?_ (ops_cons 10 ?_ (ops_cons 11 ?_ (ops_cons 12 ?_ (ops_cons 13 ?_ (ops_cons 14 ?_ (ops_cons 15 ?_ (ops_cons 16 ?_ (ops_cons 17 ?_ (ops_cons 18 ?_ (ops_cons 19 ?_ (ops_cons 20 ?_ (ops_cons 21 ?_ (ops_cons 22 ?_ (ops_cons 23 ?_ (ops_cons 24 ?_ (ops_nil 25)))))))))))))))))))))))))
            · refine op_value fun a w c => ⟨(wanted_plain rfl), _, run_move _ rfl w, (c.was 0 (by kernel_rfl) rfl)⟩
            · refine op_value fun a w c => ⟨(wanted_plain rfl), _, run_move _ rfl w, (c.was 5 (by kernel_rfl) rfl)⟩
            · refine op_value fun a w c => ⟨(wanted_plain rfl), .pointer (some ⟨b1, off1 + k * 2, none⟩), ?_, rfl⟩
              have e17 : a.eval (.tmp 17) = .slice (some ⟨b1, off1, none⟩) n cap := (c.new 0 17 (by kernel_rfl) (by kernel_rfl))
              have e18 : a.eval (.tmp 18) = .int .i64 (k : Int) := (c.new 1 18 (by kernel_rfl) (by kernel_rfl))
              generalize a.eval = ρ at e17 e18 ⊢
              simp [execOp, e17, e18, go_sem, i1, i2]
            · refine op_value fun a w c => ⟨(wanted_plain rfl), .pointer (some ⟨b1, off1 + k * 2, none⟩), ?_, rfl⟩
              have e19 : a.eval (.tmp 19) = .pointer (some ⟨b1, off1 + k * 2, none⟩) := (c.new 2 19 (by kernel_rfl) (by kernel_rfl))
              generalize a.eval = ρ at e19 ⊢
              simp [execOp, e19, go_sem]
            · refine op_value fun a w c => ⟨(wanted_plain rfl), .slice A1 n1 cap1, ?_, rfl⟩
              have e20 : a.eval (.tmp 20) = .pointer (some ⟨b1, off1 + k * 2, none⟩) := (c.new 3 20 (by kernel_rfl) (by kernel_rfl))
              have hc := (c.ev.cell (p := ⟨b1, off1 + k * 2, none⟩) hb1).trans c0
              generalize a.eval = ρ at e20 ⊢
              simp [execOp, e20, hc, go_sem]
            · refine op_value fun a w c => ⟨(wanted_plain rfl), _, run_move _ rfl w, (c.was 1 (by kernel_rfl) rfl)⟩
            · refine op_value fun a w c => ⟨(wanted_plain rfl), _, run_move _ rfl w, (c.was 5 (by kernel_rfl) rfl)⟩
            · refine op_value fun a w c => ⟨(wanted_plain rfl), .pointer (some ⟨b2, off2 + k * 2, none⟩), ?_, rfl⟩
              have e22 : a.eval (.tmp 22) = .slice (some ⟨b2, off2, none⟩) n cap2 := (c.new 5 22 (by kernel_rfl) (by kernel_rfl))
              have e23 : a.eval (.tmp 23) = .int .i64 (k : Int) := (c.new 6 23 (by kernel_rfl) (by kernel_rfl))
              generalize a.eval = ρ at e22 e23 ⊢
              simp [execOp, e22, e23, go_sem, i1, i2]
            · refine op_value fun a w c => ⟨(wanted_plain rfl), .pointer (some ⟨b2, off2 + k * 2, none⟩), ?_, rfl⟩
              have e24 : a.eval (.tmp 24) = .pointer (some ⟨b2, off2 + k * 2, none⟩) := (c.new 7 24 (by kernel_rfl) (by kernel_rfl))
              generalize a.eval = ρ at e24 ⊢
              simp [execOp, e24, go_sem]
            · refine op_value fun a w c => ⟨(wanted_plain rfl), .slice A2 n2 cap2_, ?_, rfl⟩
              have e25 : a.eval (.tmp 25) = .pointer (some ⟨b2, off2 + k * 2, none⟩) := (c.new 8 25 (by kernel_rfl) (by kernel_rfl))
              have hc := (c.ev.cell (p := ⟨b2, off2 + k * 2, none⟩) hb2).trans d0
              generalize a.eval = ρ at e25 ⊢
              simp [execOp, e25, hc, go_sem]
            · refine op_call fun a w c => ⟨(wanted_plain rfl), 25, #[.slice A1 n1 cap1, .slice A2 n2 cap2_], ?_, ?_⟩
              · rw [run_call 25 _ _ rfl (by kernel_rfl)]
                have e21 : a.eval (.tmp 21) = .slice A1 n1 cap1 := (c.new 4 21 (by kernel_rfl) (by kernel_rfl))
                have e26 : a.eval (.tmp 26) = .slice A2 n2 cap2_ := (c.new 9 26 (by kernel_rfl) (by kernel_rfl))
                simp [e21, e26]
              · refine (HL.out w c.ev).mono ?_
                rintro e w2 ⟨rfl, hE⟩
                exact ⟨_, rfl, hE, rfl⟩
            · refine op_value fun a w c => ⟨(wanted_plain rfl), .bool true, ?_, rfl⟩
              have e27 : a.eval (.tmp 27) = .bool false := (c.new 10 27 (by kernel_rfl) (by kernel_rfl))
              generalize a.eval = ρ at e27 ⊢
              simp [execOp, e27, go_sem]
            · refine op_value fun a w c => ⟨(wanted_plain rfl), _, run_move _ rfl w, (c.new 11 28 (by kernel_rfl) (by kernel_rfl))⟩
            · refine op_skip fun a w c => ⟨(wanted_no rfl (by kernel_rfl) (c.new 12 29 (by kernel_rfl) (by kernel_rfl)) (by decide)), trivial⟩
            · refine op_skip fun a w c => ⟨(wanted_no rfl (by kernel_rfl) (c.new 12 29 (by kernel_rfl) (by kernel_rfl)) (by decide)), trivial⟩
            · refine op_skip fun a w c => ⟨(wanted_no rfl (by kernel_rfl) (c.new 12 29 (by kernel_rfl) (by kernel_rfl)) (by decide)), trivial⟩
            · refine op_skip fun a w c => ⟨(wanted_no rfl (by kernel_rfl) (c.new 12 29 (by kernel_rfl) (by kernel_rfl)) (by decide)), trivial⟩
            · refine op_skip fun a w c => ⟨(wanted_no rfl (by kernel_rfl) (c.new 12 29 (by kernel_rfl) (by kernel_rfl)) (by decide)), trivial⟩
            · refine op_skip fun a w c => ⟨(wanted_no rfl (by kernel_rfl) (c.new 12 29 (by kernel_rfl) (by kernel_rfl)) (by decide)), trivial⟩
            · refine op_skip fun a w c => ⟨(wanted_no rfl (by kernel_rfl) (c.new 12 29 (by kernel_rfl) (by kernel_rfl)) (by decide)), trivial⟩
            · refine op_skip fun a w c => ⟨(wanted_no rfl (by kernel_rfl) (c.new 12 29 (by kernel_rfl) (by kernel_rfl)) (by decide)), trivial⟩
            · refine op_skip fun a w c => ⟨(wanted_no rfl (by kernel_rfl) (c.new 12 29 (by kernel_rfl) (by kernel_rfl)) (by decide)), trivial⟩
            · refine op_skip fun a w c => ⟨(wanted_no rfl (by kernel_rfl) (c.new 12 29 (by kernel_rfl) (by kernel_rfl)) (by decide)), trivial⟩
            · refine op_skip fun a w c => ⟨(wanted_no rfl (by kernel_rfl) (c.new 12 29 (by kernel_rfl) (by kernel_rfl)) (by decide)), trivial⟩
            · refine op_value fun a w c => ⟨(wanted_plain rfl), _, run_pick_true rfl (c.new 12 29 (by kernel_rfl) (by kernel_rfl)) w, (evc a _)⟩
          intro s w4 hEr hold hnew
          have f0 : s 0 = .slice (some ⟨b1, off1, none⟩) n cap := hold 0 (by kernel_rfl)
          have f1 : s 1 = .slice (some ⟨b2, off2, none⟩) n cap2 := hold 1 (by kernel_rfl)
          have f2 : s 2 = undef := hold 2 (by kernel_rfl)
          have f3 : s 3 = undef := hold 3 (by kernel_rfl)
          have f4 : s 4 = u4 := hold 4 (by kernel_rfl)
          have f5 : s 5 = .int .i64 (k : Int) := hold 5 (by kernel_rfl)
          have f6 : s 6 = .slice (some ⟨b1, off1, none⟩) n cap := hold 6 (by kernel_rfl)
          have f7 : s 7 = .int .i64 (n : Int) := hold 7 (by kernel_rfl)
          have f8 : s 8 = .slice (some ⟨b2, off2, none⟩) n cap2 := hold 8 (by kernel_rfl)
          have f9 : s 9 = .int .i64 (n : Int) := hold 9 (by kernel_rfl)
          have f10 : s 10 = .bool false := hold 10 (by kernel_rfl)
          have f17 : s 17 = .slice (some ⟨b1, off1, none⟩) n cap := hnew 0 17 (by kernel_rfl)
          have f18 : s 18 = .int .i64 (k : Int) := hnew 1 18 (by kernel_rfl)
          have f19 : s 19 = .pointer (some ⟨b1, off1 + k * 2, none⟩) := hnew 2 19 (by kernel_rfl)
          have f20 : s 20 = .pointer (some ⟨b1, off1 + k * 2, none⟩) := hnew 3 20 (by kernel_rfl)
          have f21 : s 21 = .slice A1 n1 cap1 := hnew 4 21 (by kernel_rfl)
          have f22 : s 22 = .slice (some ⟨b2, off2, none⟩) n cap2 := hnew 5 22 (by kernel_rfl)
          have f23 : s 23 = .int .i64 (k : Int) := hnew 6 23 (by kernel_rfl)
          have f24 : s 24 = .pointer (some ⟨b2, off2 + k * 2, none⟩) := hnew 7 24 (by kernel_rfl)
          have f25 : s 25 = .pointer (some ⟨b2, off2 + k * 2, none⟩) := hnew 8 25 (by kernel_rfl)
          have f26 : s 26 = .slice A2 n2 cap2_ := hnew 9 26 (by kernel_rfl)
          have f27 : s 27 = .bool false := hnew 10 27 (by kernel_rfl)
          have f28 : s 28 = .bool true := hnew 11 28 (by kernel_rfl)
          have f29 : s 29 = .bool true := hnew 12 29 (by kernel_rfl)
          have f41 : s 41 = .bool true := hnew 24 41 (by kernel_rfl)
          change Exit.then _ _ .normal ⟨#[s 0, s 1, s 2, s 3, s 4, s 5, s 6, s 7, s 8, s 9, s 10, s 11, s 12, s 13, s 14, s 15, s 16, s 17, s 18, s 19, s 20, s 21, s 22, s 23, s 24, s 25, s 26, s 27, s 28, s 29, s 30, s 31, s 32, s 33, s 34, s 35, s 36, s 37, s 38, s 39, s 40, s 41], _⟩ _
          simp only [f0, f1, f2, f3, f4, f5, f6, f7, f8, f9, f10, f17, f18, f19, f20, f21, f22, f23, f24, f25, f26, f27, f28, f29, f41]
          clear hold hnew
          go_wp2
          go_ret
          exact ⟨by rw [← HRES.out, HF.out]; rfl, hE.trans hEr⟩
      · obtain rfl : k = n := by omega
        have HF : Hid (decide (itemsOf Z = itemsOf Y) = true) := Lib.hid (decide_eq_true (by
          have := HT.out
          rwa [List.take_of_length_le (by rw [HN.out]; exact Nat.le_refl _), List.take_of_length_le (by rw [HM.out]; exact Nat.le_refl _)] at this))
        go_wp2
        go_ret
        exact ⟨by rw [← HRES.out, HF.out]; rfl, hE⟩
  · have hne : ¬ (n : Int) = (m : Int) := by omega
    have HF : Hid (decide (itemsOf Z = itemsOf Y) = false) := Lib.hid (decide_eq_false fun e => hnn (by rw [← HN.out, ← HM.out, ← itemsOf_length Z, e, itemsOf_length]))
    go_enter Try.func8, Try.ntmps8
    go_wp2
    go_ret
    exact ⟨by rw [HF.out]; rfl, Ev.refl _⟩
end Go.Proofs.Ytcenjjoadhfhaaa
