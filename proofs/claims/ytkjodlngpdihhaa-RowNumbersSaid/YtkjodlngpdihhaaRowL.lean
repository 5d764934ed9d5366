/-
  The contracts of package row: Columns, Fits, Less.
-/
import Derived.Test.YtkjodlngpdihhaaRowN
import Derived.Deep.Cut
namespace Go.Proofs.Ytkjodlngpdihhaa
open Go.RowKit
set_option linter.unusedVariables false

theorem run_to_cols {ρ : Operand → Value} {o : Oper} {x : Operand} {A : Option Addr} {n cap : Nat} (k : Nat) {c : Operand} (ho : o.op = .slice 24 x none (some c) none) (h : ρ x = .slice A n cap) (hc : ρ c = .int .i64 (k : Int)) (hk : k ≤ cap) (w : World) :
    (execOp ρ o).run Try.prog w = .ok (.value (.slice A k cap)) w := by
  have h1 : (k : Int) ≤ (cap : Int) := by omega
  have h2 : (0 : Int) ≤ (k : Int) := by omega
  have ht : Try.prog.underlying 24 = some (.slice (Try.prog.elem 24)) := by kernel_rfl
  have hs : (sizeOf (Try.prog.elem 24)).run Try.prog w = .ok 2 w := by kernel_rfl
  unfold execOp
  rw [ho]
  simp [h, hc, run_sliceAt_slice w 24 _ _ _ _ ht, run_slice_h w 24 A n cap ht .i64 (k : Int) h2 h1, hs, Result.andThen, sliced, Addr.add]
/-- A column in its own box. -/
structure Colbox (g : Nat) (s : ByteArray) (k : Int) (w : World) : Prop where
  blk : w.heap[g]? = some (.cells #[.string s, .int .i64 k] 23 (0, 0))
theorem Colbox.c0 {g : Nat} {s : ByteArray} {k : Int} {w : World} (h : Colbox g s k w) : w.cell? ⟨g, 0, none⟩ = some (.string s) := by rw [Lib.cell_of_heap h.blk]; rfl
theorem Colbox.c1 {g : Nat} {s : ByteArray} {k : Int} {w : World} (h : Colbox g s k w) : w.cell? ⟨g, 1, none⟩ = some (.int .i64 k) := by rw [Lib.cell_of_heap h.blk]; rfl
theorem Colbox.ev {g : Nat} {s : ByteArray} {k : Int} {w w' : World} (h : Colbox g s k w) (he : Ev w w') : Colbox g s k w' :=
  ⟨by rw [he.block g (Array.getElem?_eq_some_iff.1 h.blk).1]; exact h.blk⟩
theorem Colbox.new (s : ByteArray) (k : Int) (w : World) : Colbox w.heap.size s k (w.alloc (.cells #[.string s, .int .i64 k] 23)) := ⟨heap_alloc_new w _⟩

set_option maxRecDepth 100000 in
set_option maxHeartbeats 4000000 in
theorem row_less {A B : Option Addr} {n m cap cap' : Nat} {a b : List V} (w : World) (h : Vs w A n cap a) (h' : Vs w B m cap' b) :
    Calls Try.prog 28 #[.slice A n cap, .slice B m cap'] w fun e w' => e = .returned (.bool (lessR a b)) ∧ Ev w w' := by
  have hn := h.le
  have hm := h.max
  have hn' := h'.le
  have hm' := h'.max
  have HL := Lib.hid h.len
  have HM := Lib.hid h'.len
  have HR := Lib.hid (fun w1 (h1 : Vs w1 A n cap a) => row_right w1 h1)
  have HR' := Lib.hid (fun w1 (h1 : Vs w1 B m cap' b) => row_right w1 h1)
  have HS := Lib.hid (fun w1 (h1 : Vs w1 A n cap a) (h2 : Vs w1 B m cap' b) => row_shared w1 h1 h2)
  have hmix : Try.prog.follows .mixedOrders = true := by kernel_rfl
  unfold lessR
  generalize rightR a = r at *
  generalize rightR b = r' at *
  cases r
  · go_enter Try.func28, Try.ntmps28
    go_wp2_with (first | ((with_reducible refine (HR.out _ h).mono ?_); rintro x w1 ⟨rfl, hE1⟩))
    go_ret
    exact ⟨rfl, hE1⟩
  · cases r'
    · go_enter Try.func28, Try.ntmps28
      go_wp2_with (first | ((with_reducible refine (HR.out _ h).mono ?_); rintro x w1 ⟨rfl, hE1⟩) | ((with_reducible refine (HR'.out _ (h'.ev hE1)).mono ?_); rintro x w2 ⟨rfl, hE2⟩))
      go_ret
      exact ⟨rfl, hE1.trans hE2⟩
    · simp only [Bool.and_self, if_true]
      go_enter Try.func28, Try.ntmps28
      go_upto_region 4 with (first | ((with_reducible refine (HR.out _ h).mono ?_); rintro x w1 ⟨rfl, hE1⟩) | ((with_reducible refine (HR'.out _ (h'.ev hE1)).mono ?_); rintro x w2 ⟨rfl, hE2⟩) | ((with_reducible refine (HS.out _ (h.ev (hE1.trans hE2)) (h'.ev (hE1.trans hE2))).mono ?_); rintro x w3 ⟨⟨i, rfl, HI⟩, hE3⟩; replace HI := Lib.hid HI; have hE := (hE1.trans hE2).trans hE3))
      have hi1 : i ≤ n := by rw [← HL.out]; exact HI.out.le
      have hi2 : i ≤ m := by rw [← HM.out]; exact HI.out.le'
      by_cases ha : i < n
      · have i2 : (i : Int) < (n : Int) := by omega
        by_cases hb : i < m
        · have i3 : (i : Int) < (m : Int) := by omega
          obtain ⟨b1, off, ⟨xk, xn, xs⟩, rfl, hb1, hx, c0, c1, c2⟩ := (h.ev hE).vcell ha
          obtain ⟨b2, off', ⟨yk, yn, ys⟩, rfl, hb2, hy, d0, d1, d2⟩ := (h'.ev hE).vcell hb
          have i1 : (0 : Int) ≤ (i : Int) := by omega
          simp only at c0 c1 c2 d0 d1 d2
          have HF := Lib.hid (lessL_at HI.out.same hx hy (HI.out.differ _ _ hx hy))
          obtain ⟨x, hx⟩ : ∃ x, lessV xk xn xs yk yn ys = x := ⟨_, rfl⟩
          have HX := Lib.hid hx
          clear hx hy
          go_wp2_with fail
          refine wp_region_slots hmix [fun v _ => v = .slice (some ⟨b1, off, none⟩) n cap, fun v _ => v = .int .i64 (i : Int), fun v _ => v = .pointer (some ⟨b1, off + i * 3, none⟩), fun v _ => v = vv xk xn xs, fun v _ => v = .slice (some ⟨b2, off', none⟩) m cap', fun v _ => v = .int .i64 (i : Int), fun v _ => v = .pointer (some ⟨b2, off' + i * 3, none⟩), fun v _ => v = vv yk yn ys, fun v _ => v = .bool x, fun v _ => v = .bool x]
            41 rfl (by kernel_rfl) ⟨mono_eq _, mono_eq _, mono_eq _, mono_eq _, mono_eq _, mono_eq _, mono_eq _, mono_eq _, mono_eq _, mono_eq _, trivial⟩ ?_ ?_
          · refine ops_cons 0 ?_ (ops_cons 1 ?_ (ops_cons 2 ?_ (ops_cons 3 ?_ (ops_cons 4 ?_ (ops_cons 5 ?_ (ops_cons 6 ?_ (ops_cons 7 ?_ (ops_cons 8 ?_ (ops_cons 9 ?_ (ops_nil 10))))))))))
            · refine op_value fun a w c => ⟨(wanted_plain rfl), _, run_move _ rfl w, (c.was 0 (by kernel_rfl) rfl)⟩
            · refine op_value fun a w c => ⟨(wanted_plain rfl), _, run_move _ rfl w, (c.was 5 (by kernel_rfl) rfl)⟩
            · refine op_value fun a w c => ⟨(wanted_plain rfl), .pointer (some ⟨b1, off + i * 3, none⟩), ?_, rfl⟩
              have e27 : a.eval (.tmp 27) = .slice (some ⟨b1, off, none⟩) n cap := (c.new 0 27 (by kernel_rfl) (by kernel_rfl))
              have e28 : a.eval (.tmp 28) = .int .i64 (i : Int) := (c.new 1 28 (by kernel_rfl) (by kernel_rfl))
              generalize a.eval = ρ at e27 e28 ⊢
              simp [execOp, e27, e28, go_sem, i1, i2]
            · refine op_value fun a w c => ⟨(wanted_plain rfl), _, run_load_elem rfl ((c.new 2 29 (by kernel_rfl) (by kernel_rfl)) : a.eval (.tmp 29) = .pointer (some ⟨b1, off + i * 3, none⟩)) ((c.ev.cell (p := ⟨_, _, none⟩) hb1).trans c0) ((c.ev.cell (p := ⟨_, _, none⟩) hb1).trans c1) ((c.ev.cell (p := ⟨_, _, none⟩) hb1).trans c2), rfl⟩
            · refine op_value fun a w c => ⟨(wanted_plain rfl), _, run_move _ rfl w, (c.was 1 (by kernel_rfl) rfl)⟩
            · refine op_value fun a w c => ⟨(wanted_plain rfl), _, run_move _ rfl w, (c.was 5 (by kernel_rfl) rfl)⟩
            · refine op_value fun a w c => ⟨(wanted_plain rfl), .pointer (some ⟨b2, off' + i * 3, none⟩), ?_, rfl⟩
              have e31 : a.eval (.tmp 31) = .slice (some ⟨b2, off', none⟩) m cap' := (c.new 4 31 (by kernel_rfl) (by kernel_rfl))
              have e32 : a.eval (.tmp 32) = .int .i64 (i : Int) := (c.new 5 32 (by kernel_rfl) (by kernel_rfl))
              generalize a.eval = ρ at e31 e32 ⊢
              simp [execOp, e31, e32, go_sem, i1, i3]
            · refine op_value fun a w c => ⟨(wanted_plain rfl), _, run_load_elem rfl ((c.new 6 33 (by kernel_rfl) (by kernel_rfl)) : a.eval (.tmp 33) = .pointer (some ⟨b2, off' + i * 3, none⟩)) ((c.ev.cell (p := ⟨_, _, none⟩) hb2).trans d0) ((c.ev.cell (p := ⟨_, _, none⟩) hb2).trans d1) ((c.ev.cell (p := ⟨_, _, none⟩) hb2).trans d2), rfl⟩
            · refine op_call fun a w c => ⟨(wanted_plain rfl), 53, #[vv xk xn xs, vv yk yn ys], ?_, ?_⟩
              · rw [run_call 53 _ _ rfl (by kernel_rfl)]
                have e30 : a.eval (.tmp 30) = vv xk xn xs := (c.new 3 30 (by kernel_rfl) (by kernel_rfl))
                have e34 : a.eval (.tmp 34) = vv yk yn ys := (c.new 7 34 (by kernel_rfl) (by kernel_rfl))
                simp [e30, e34]
              · refine (value_less _ _ _ _ _ _ w).mono ?_
                rintro e w2 ⟨rfl, hE⟩
                exact ⟨_, rfl, hE, congrArg Value.bool HX.out⟩
            · refine op_value fun a w c => ⟨(wanted_plain rfl), _, run_assign _ rfl w, (c.new 8 35 (by kernel_rfl) (by kernel_rfl))⟩
          intro s w4 hEr hold hnew
          have f0 : s 0 = .slice (some ⟨b1, off, none⟩) n cap := hold 0 (by kernel_rfl)
          have f1 : s 1 = .slice (some ⟨b2, off', none⟩) m cap' := hold 1 (by kernel_rfl)
          have f5 : s 5 = .int .i64 (i : Int) := hold 5 (by kernel_rfl)
          have f4 : s 4 = .bool x := hnew 9 4 (by kernel_rfl)
          have f27 : s 27 = .slice (some ⟨b1, off, none⟩) n cap := hnew 0 27 (by kernel_rfl)
          have f28 : s 28 = .int .i64 (i : Int) := hnew 1 28 (by kernel_rfl)
          have f29 : s 29 = .pointer (some ⟨b1, off + i * 3, none⟩) := hnew 2 29 (by kernel_rfl)
          have f30 : s 30 = vv xk xn xs := hnew 3 30 (by kernel_rfl)
          have f31 : s 31 = .slice (some ⟨b2, off', none⟩) m cap' := hnew 4 31 (by kernel_rfl)
          have f32 : s 32 = .int .i64 (i : Int) := hnew 5 32 (by kernel_rfl)
          have f33 : s 33 = .pointer (some ⟨b2, off' + i * 3, none⟩) := hnew 6 33 (by kernel_rfl)
          have f34 : s 34 = vv yk yn ys := hnew 7 34 (by kernel_rfl)
          have f35 : s 35 = .bool x := hnew 8 35 (by kernel_rfl)
          change Exit.then _ _ .normal ⟨#[s 0, s 1, s 2, s 3, s 4, s 5, s 6, s 7, s 8, s 9, s 10, s 11, s 12, s 13, s 14, s 15, s 16, s 17, s 18, s 19, s 20, s 21, s 22, s 23, s 24, s 25, s 26, s 27, s 28, s 29, s 30, s 31, s 32, s 33, s 34, s 35, s 36, s 37, s 38, s 39, s 40], _⟩ _
          simp only [f0, f1, f5, f4, f27, f28, f29, f30, f31, f32, f33, f34, f35]
          clear hold hnew
          go_wp2
          go_ret
          exact ⟨by rw [HF.out]; exact congrArg (fun b => Ending.returned (Value.bool b)) HX.out.symm, hE.trans hEr⟩
        · have i3 : ¬ (i : Int) < (m : Int) := by omega
          have HF := Lib.hid (lessL_end HI.out.same HI.out.le HI.out.le' (.inr (by rw [HM.out]; omega)))
          have e1 : ¬ (n : Int) < (m : Int) := by omega
          have e2 : decide (a.length < b.length) = false := decide_eq_false (by rw [HL.out, HM.out]; omega)
          go_wp2
          go_ret
          exact ⟨by rw [HF.out, e2]; rfl, hE⟩
      · have i2 : ¬ (i : Int) < (n : Int) := by omega
        have HF := Lib.hid (lessL_end HI.out.same HI.out.le HI.out.le' (.inl (by rw [HL.out]; omega)))
        have e2 : decide (a.length < b.length) = decide (n < m) := by rw [HL.out, HM.out]
        go_wp2
        go_ret
        exact ⟨by rw [HF.out, e2]; rfl, hE⟩

set_option maxRecDepth 100000 in
set_option maxHeartbeats 4000000 in
theorem row_fits {A B : Option Addr} {n m cap cap' : Nat} {l : List C} {r : List V} (w : World) (h : Cs w A n cap l) (h' : Vs w B m cap' r) :
    Calls Try.prog 18 #[.slice A n cap, .slice B m cap'] w fun e w' => e = .returned (.bool (fitsL l r)) ∧ Ev w w' := by
  have hn := h.le
  have hm := h.max
  have hn' := h'.le
  have hm' := h'.max
  have HL := Lib.hid h.len
  have HM := Lib.hid h'.len
  have hmix : Try.prog.follows .mixedOrders = true := by kernel_rfl
  by_cases hnm : m = n
  · subst hnm
    go_enter Try.func18, Try.ntmps18
    go_wp2
    go_loopw [14] (fun i wr => ∃ k : Nat, k ≤ m ∧ i = .int .i64 k ∧ Hid (fitsL (l.take k) (r.take k) = true) ∧ Ev w wr) (fun i _ => m - (intOf i).toNat)
    case atStart => exact ⟨0, Nat.zero_le _, rfl, Lib.hid (by simp [fitsL]), Ev.refl _⟩
    case round =>
      obtain ⟨k, hk, rfl, HT, hE⟩ := hrel
      by_cases hlt : k < m
      · obtain ⟨b2, off', ⟨xs, ck⟩, rfl, hb2, hy, d0, d1⟩ := (h.ev hE).ccell hlt
        obtain ⟨b1, off, ⟨vk, vn, vs⟩, rfl, hb1, hx, c0, c1, c2⟩ := (h'.ev hE).vcell hlt
        simp only at c0 c1 c2 d0 d1
        have i1 : (0 : Int) ≤ (k : Int) := by omega
        have i2 : (k : Int) < (m : Int) := by omega
        have HX := Lib.hid hx
        have HY := Lib.hid hy
        obtain ⟨w0, hw0⟩ : ∃ w0, w0 = wr.alloc (.cells #[.int .i64 vk, .int .i64 vn, .string vs] 61) := ⟨_, rfl⟩
        have B0 : Boxed wr.heap.size vk vn vs w0 := hw0 ▸ Boxed.new vk vn vs wr
        have hE0 : Ev wr w0 := hw0 ▸ Ev.alloc wr _
        replace d1 := (hE0.cell (p := ⟨b2, off' + k * 2 + 1, none⟩) hb2).trans d1
        replace hb2 : b2 < w0.heap.size := Nat.lt_of_lt_of_le hb2 hE0.size
        have HV := fun w1 => value_right vk vn vs w1
        obtain ⟨rr, hrr⟩ : ∃ rr, rightV vk vn vs = rr := ⟨_, rfl⟩
        rw [hrr] at HV
        clear hx hy h h'
        cases rr
        · have HF : Hid (fitsL l r = false) := Lib.hid (fitsL_not k l r _ _ HY.out HX.out (.inl hrr))
          clear hrr
          go_wp2_with fail
          rw [← hw0]
          obtain ⟨g, hg⟩ : ∃ g, g = wr.heap.size := ⟨_, rfl⟩
          rw [← hg] at B0 ⊢
          refine wp_region_slots hmix [fun v _ => v = vv vk vn vs, fun v _ => v = .bool false, fun v _ => v = .bool true, fun v _ => v = .bool true, fun _ _ => True, fun _ _ => True, fun _ _ => True, fun _ _ => True, fun _ _ => True, fun _ _ => True, fun _ _ => True, fun _ _ => True, fun v _ => v = .bool true]
            33 rfl (by kernel_rfl) ⟨mono_eq _, mono_eq _, mono_eq _, mono_eq _, mono_true, mono_true, mono_true, mono_true, mono_true, mono_true, mono_true, mono_true, mono_eq _, trivial⟩ ?_ ?_
          · refine ops_cons 0 ?_ (ops_cons 1 ?_ (ops_cons 2 ?_ (ops_cons 3 ?_ (ops_cons 4 ?_ (ops_cons 5 ?_ (ops_cons 6 ?_ (ops_cons 7 ?_ (ops_cons 8 ?_ (ops_cons 9 ?_ (ops_cons 10 ?_ (ops_cons 11 ?_ (ops_cons 12 ?_ (ops_nil 13)))))))))))))
            · refine op_value fun a w c => ⟨(wanted_plain rfl), _, run_load_val rfl ((c.was 6 (by kernel_rfl) rfl) : a.eval (.tmp 6) = .pointer (some ⟨g, 0, none⟩)) (B0.ev c.ev), rfl⟩
            · refine op_call fun a w c => ⟨(wanted_plain rfl), 39, #[vv vk vn vs], ?_, ?_⟩
              · rw [run_call 39 _ _ rfl (by kernel_rfl)]
                have e19 : a.eval (.tmp 19) = vv vk vn vs := (c.new 0 19 (by kernel_rfl) (by kernel_rfl))
                simp [e19]
              · refine (HV w).mono ?_
                rintro e w2 ⟨rfl, hE⟩
                exact ⟨_, rfl, hE, rfl⟩
            · refine op_value fun a w c => ⟨(wanted_plain rfl), .bool true, ?_, rfl⟩
              have e20 : a.eval (.tmp 20) = .bool false := (c.new 1 20 (by kernel_rfl) (by kernel_rfl))
              generalize a.eval = ρ at e20 ⊢
              simp [execOp, e20, go_sem]
            · refine op_value fun a w c => ⟨(wanted_plain rfl), _, run_move _ rfl w, (c.new 2 21 (by kernel_rfl) (by kernel_rfl))⟩
            · refine op_skip fun a w c => ⟨(wanted_no rfl (by kernel_rfl) (c.new 3 22 (by kernel_rfl) (by kernel_rfl)) (by decide)), trivial⟩
            · refine op_skip fun a w c => ⟨(wanted_no rfl (by kernel_rfl) (c.new 3 22 (by kernel_rfl) (by kernel_rfl)) (by decide)), trivial⟩
            · refine op_skip fun a w c => ⟨(wanted_no rfl (by kernel_rfl) (c.new 3 22 (by kernel_rfl) (by kernel_rfl)) (by decide)), trivial⟩
            · refine op_skip fun a w c => ⟨(wanted_no rfl (by kernel_rfl) (c.new 3 22 (by kernel_rfl) (by kernel_rfl)) (by decide)), trivial⟩
            · refine op_skip fun a w c => ⟨(wanted_no rfl (by kernel_rfl) (c.new 3 22 (by kernel_rfl) (by kernel_rfl)) (by decide)), trivial⟩
            · refine op_skip fun a w c => ⟨(wanted_no rfl (by kernel_rfl) (c.new 3 22 (by kernel_rfl) (by kernel_rfl)) (by decide)), trivial⟩
            · refine op_skip fun a w c => ⟨(wanted_no rfl (by kernel_rfl) (c.new 3 22 (by kernel_rfl) (by kernel_rfl)) (by decide)), trivial⟩
            · refine op_skip fun a w c => ⟨(wanted_no rfl (by kernel_rfl) (c.new 3 22 (by kernel_rfl) (by kernel_rfl)) (by decide)), trivial⟩
            · refine op_value fun a w c => ⟨(wanted_plain rfl), _, run_pick_true rfl (c.new 3 22 (by kernel_rfl) (by kernel_rfl)) w, (evc a _)⟩
          intro s w4 hEr hold hnew
          have f0 : s 0 = .slice (some ⟨b2, off', none⟩) m cap := hold 0 (by kernel_rfl)
          have f1 : s 1 = .slice (some ⟨b1, off, none⟩) m cap' := hold 1 (by kernel_rfl)
          have f2 : s 2 = undef := hold 2 (by kernel_rfl)
          have f3 : s 3 = undef := hold 3 (by kernel_rfl)
          have f5 : s 5 = .int .i64 (k : Int) := hold 5 (by kernel_rfl)
          have f6 : s 6 = .pointer (some ⟨g, 0, none⟩) := hold 6 (by kernel_rfl)
          have f7 : s 7 = .slice (some ⟨b1, off, none⟩) m cap' := hold 7 (by kernel_rfl)
          have f8 : s 8 = .int .i64 (m : Int) := hold 8 (by kernel_rfl)
          have f9 : s 9 = .slice (some ⟨b2, off', none⟩) m cap := hold 9 (by kernel_rfl)
          have f10 : s 10 = .int .i64 (m : Int) := hold 10 (by kernel_rfl)
          have f11 : s 11 = .bool false := hold 11 (by kernel_rfl)
          have f12 : s 12 = .slice (some ⟨b1, off, none⟩) m cap' := hold 12 (by kernel_rfl)
          have f13 : s 13 = .int .i64 (m : Int) := hold 13 (by kernel_rfl)
          have f14 : s 14 = .int .i64 (k : Int) := hold 14 (by kernel_rfl)
          have f19 : s 19 = vv vk vn vs := hnew 0 19 (by kernel_rfl)
          have f20 : s 20 = .bool false := hnew 1 20 (by kernel_rfl)
          have f21 : s 21 = .bool true := hnew 2 21 (by kernel_rfl)
          have f22 : s 22 = .bool true := hnew 3 22 (by kernel_rfl)
          have f31 : s 31 = .bool true := hnew 12 31 (by kernel_rfl)
          change Exit.then _ _ .normal ⟨#[s 0, s 1, s 2, s 3, s 4, s 5, s 6, s 7, s 8, s 9, s 10, s 11, s 12, s 13, s 14, s 15, s 16, s 17, s 18, s 19, s 20, s 21, s 22, s 23, s 24, s 25, s 26, s 27, s 28, s 29, s 30, s 31, s 32], _⟩ _
          simp only [f0, f1, f2, f3, f5, f6, f7, f8, f9, f10, f11, f12, f13, f14, f19, f20, f21, f22, f31]
          clear hold hnew
          go_wp2
          go_ret
          exact ⟨by rw [HF.out]; rfl, (hE.trans hE0).trans hEr⟩
        · by_cases hkk : vk = ck
          · subst hkk
            have HF := Lib.hid (fitsL_step k l r _ _ HT.out HY.out HX.out hrr rfl)
            clear hrr
            go_wp2_with fail
            rw [← hw0]
            obtain ⟨g, hg⟩ : ∃ g, g = wr.heap.size := ⟨_, rfl⟩
            rw [← hg] at B0 ⊢
            refine wp_region_slots hmix [fun v _ => v = vv vk vn vs, fun v _ => v = .bool true, fun v _ => v = .bool false, fun v _ => v = .bool false, fun v _ => v = .pointer (some ⟨g, 0, none⟩), fun v _ => v = .int .i64 vk, fun v _ => v = .slice (some ⟨b2, off', none⟩) m cap, fun v _ => v = .int .i64 (k : Int), fun v _ => v = .pointer (some ⟨b2, off' + k * 2, none⟩), fun v _ => v = .pointer (some ⟨b2, off' + k * 2 + 1, none⟩), fun v _ => v = .int .i64 vk, fun v _ => v = .bool false, fun v _ => v = .bool false]
              33 rfl (by kernel_rfl) ⟨mono_eq _, mono_eq _, mono_eq _, mono_eq _, mono_eq _, mono_eq _, mono_eq _, mono_eq _, mono_eq _, mono_eq _, mono_eq _, mono_eq _, mono_eq _, trivial⟩ ?_ ?_
            · refine ops_cons 0 ?_ (ops_cons 1 ?_ (ops_cons 2 ?_ (ops_cons 3 ?_ (ops_cons 4 ?_ (ops_cons 5 ?_ (ops_cons 6 ?_ (ops_cons 7 ?_ (ops_cons 8 ?_ (ops_cons 9 ?_ (ops_cons 10 ?_ (ops_cons 11 ?_ (ops_cons 12 ?_ (ops_nil 13)))))))))))))
              · refine op_value fun a w c => ⟨(wanted_plain rfl), _, run_load_val rfl ((c.was 6 (by kernel_rfl) rfl) : a.eval (.tmp 6) = .pointer (some ⟨g, 0, none⟩)) (B0.ev c.ev), rfl⟩
              · refine op_call fun a w c => ⟨(wanted_plain rfl), 39, #[vv vk vn vs], ?_, ?_⟩
                · rw [run_call 39 _ _ rfl (by kernel_rfl)]
                  have e19 : a.eval (.tmp 19) = vv vk vn vs := (c.new 0 19 (by kernel_rfl) (by kernel_rfl))
                  simp [e19]
                · refine (HV w).mono ?_
                  rintro e w2 ⟨rfl, hE⟩
                  exact ⟨_, rfl, hE, rfl⟩
              · refine op_value fun a w c => ⟨(wanted_plain rfl), .bool false, ?_, rfl⟩
                have e20 : a.eval (.tmp 20) = .bool true := (c.new 1 20 (by kernel_rfl) (by kernel_rfl))
                generalize a.eval = ρ at e20 ⊢
                simp [execOp, e20, go_sem]
              · refine op_value fun a w c => ⟨(wanted_plain rfl), _, run_move _ rfl w, (c.new 2 21 (by kernel_rfl) (by kernel_rfl))⟩
              · refine op_value fun a w c => ⟨(wanted_yes rfl (by kernel_rfl) (c.new 3 22 (by kernel_rfl) (by kernel_rfl))), .pointer (some ⟨g, 0, none⟩), ?_, rfl⟩
                have e6 : a.eval (.tmp 6) = .pointer (some ⟨g, 0, none⟩) := (c.was 6 (by kernel_rfl) rfl)
                generalize a.eval = ρ at e6 ⊢
                simp [execOp, e6, go_sem]
              · refine op_value fun a w c => ⟨(wanted_yes rfl (by kernel_rfl) (c.new 3 22 (by kernel_rfl) (by kernel_rfl))), .int .i64 vk, ?_, rfl⟩
                have e23 : a.eval (.tmp 23) = .pointer (some ⟨g, 0, none⟩) := (c.new 4 23 (by kernel_rfl) (by kernel_rfl))
                have hc := (B0.ev c.ev).c0
                generalize a.eval = ρ at e23 ⊢
                simp [execOp, e23, hc, go_sem]
              · refine op_value fun a w c => ⟨(wanted_yes rfl (by kernel_rfl) (c.new 3 22 (by kernel_rfl) (by kernel_rfl))), _, run_move _ rfl w, (c.was 0 (by kernel_rfl) rfl)⟩
              · refine op_value fun a w c => ⟨(wanted_yes rfl (by kernel_rfl) (c.new 3 22 (by kernel_rfl) (by kernel_rfl))), _, run_move _ rfl w, (c.was 5 (by kernel_rfl) rfl)⟩
              · refine op_value fun a w c => ⟨(wanted_yes rfl (by kernel_rfl) (c.new 3 22 (by kernel_rfl) (by kernel_rfl))), .pointer (some ⟨b2, off' + k * 2, none⟩), ?_, rfl⟩
                have e25 : a.eval (.tmp 25) = .slice (some ⟨b2, off', none⟩) m cap := (c.new 6 25 (by kernel_rfl) (by kernel_rfl))
                have e26 : a.eval (.tmp 26) = .int .i64 (k : Int) := (c.new 7 26 (by kernel_rfl) (by kernel_rfl))
                generalize a.eval = ρ at e25 e26 ⊢
                simp [execOp, e25, e26, go_sem, i1, i2]
              · refine op_value fun a w c => ⟨(wanted_yes rfl (by kernel_rfl) (c.new 3 22 (by kernel_rfl) (by kernel_rfl))), .pointer (some ⟨b2, off' + k * 2 + 1, none⟩), ?_, rfl⟩
                have e27 : a.eval (.tmp 27) = .pointer (some ⟨b2, off' + k * 2, none⟩) := (c.new 8 27 (by kernel_rfl) (by kernel_rfl))
                generalize a.eval = ρ at e27 ⊢
                simp [execOp, e27, go_sem]
              · refine op_value fun a w c => ⟨(wanted_yes rfl (by kernel_rfl) (c.new 3 22 (by kernel_rfl) (by kernel_rfl))), .int .i64 vk, ?_, rfl⟩
                have e28 : a.eval (.tmp 28) = .pointer (some ⟨b2, off' + k * 2 + 1, none⟩) := (c.new 9 28 (by kernel_rfl) (by kernel_rfl))
                have hc := (c.ev.cell (p := ⟨_, _, none⟩) hb2).trans d1
                generalize a.eval = ρ at e28 ⊢
                simp [execOp, e28, hc, go_sem]
              · refine op_value fun a w c => ⟨(wanted_yes rfl (by kernel_rfl) (c.new 3 22 (by kernel_rfl) (by kernel_rfl))), .bool false, ?_, rfl⟩
                have e24 : a.eval (.tmp 24) = .int .i64 vk := (c.new 5 24 (by kernel_rfl) (by kernel_rfl))
                have e29 : a.eval (.tmp 29) = .int .i64 vk := (c.new 10 29 (by kernel_rfl) (by kernel_rfl))
                generalize a.eval = ρ at e24 e29 ⊢
                simp [execOp, e24, e29, go_sem]
              · refine op_value fun a w c => ⟨(wanted_plain rfl), _, run_pick_false rfl (c.new 3 22 (by kernel_rfl) (by kernel_rfl)) w, (c.new 11 30 (by kernel_rfl) (by kernel_rfl))⟩
            intro s w4 hEr hold hnew
            have f0 : s 0 = .slice (some ⟨b2, off', none⟩) m cap := hold 0 (by kernel_rfl)
            have f1 : s 1 = .slice (some ⟨b1, off, none⟩) m cap' := hold 1 (by kernel_rfl)
            have f2 : s 2 = undef := hold 2 (by kernel_rfl)
            have f3 : s 3 = undef := hold 3 (by kernel_rfl)
            have f5 : s 5 = .int .i64 (k : Int) := hold 5 (by kernel_rfl)
            have f6 : s 6 = .pointer (some ⟨g, 0, none⟩) := hold 6 (by kernel_rfl)
            have f7 : s 7 = .slice (some ⟨b1, off, none⟩) m cap' := hold 7 (by kernel_rfl)
            have f8 : s 8 = .int .i64 (m : Int) := hold 8 (by kernel_rfl)
            have f9 : s 9 = .slice (some ⟨b2, off', none⟩) m cap := hold 9 (by kernel_rfl)
            have f10 : s 10 = .int .i64 (m : Int) := hold 10 (by kernel_rfl)
            have f11 : s 11 = .bool false := hold 11 (by kernel_rfl)
            have f12 : s 12 = .slice (some ⟨b1, off, none⟩) m cap' := hold 12 (by kernel_rfl)
            have f13 : s 13 = .int .i64 (m : Int) := hold 13 (by kernel_rfl)
            have f14 : s 14 = .int .i64 (k : Int) := hold 14 (by kernel_rfl)
            have f19 : s 19 = vv vk vn vs := hnew 0 19 (by kernel_rfl)
            have f20 : s 20 = .bool true := hnew 1 20 (by kernel_rfl)
            have f21 : s 21 = .bool false := hnew 2 21 (by kernel_rfl)
            have f22 : s 22 = .bool false := hnew 3 22 (by kernel_rfl)
            have f23 : s 23 = .pointer (some ⟨g, 0, none⟩) := hnew 4 23 (by kernel_rfl)
            have f24 : s 24 = .int .i64 vk := hnew 5 24 (by kernel_rfl)
            have f25 : s 25 = .slice (some ⟨b2, off', none⟩) m cap := hnew 6 25 (by kernel_rfl)
            have f26 : s 26 = .int .i64 (k : Int) := hnew 7 26 (by kernel_rfl)
            have f27 : s 27 = .pointer (some ⟨b2, off' + k * 2, none⟩) := hnew 8 27 (by kernel_rfl)
            have f28 : s 28 = .pointer (some ⟨b2, off' + k * 2 + 1, none⟩) := hnew 9 28 (by kernel_rfl)
            have f29 : s 29 = .int .i64 vk := hnew 10 29 (by kernel_rfl)
            have f30 : s 30 = .bool false := hnew 11 30 (by kernel_rfl)
            have f31 : s 31 = .bool false := hnew 12 31 (by kernel_rfl)
            change Exit.then _ _ .normal ⟨#[s 0, s 1, s 2, s 3, s 4, s 5, s 6, s 7, s 8, s 9, s 10, s 11, s 12, s 13, s 14, s 15, s 16, s 17, s 18, s 19, s 20, s 21, s 22, s 23, s 24, s 25, s 26, s 27, s 28, s 29, s 30, s 31, s 32], _⟩ _
            simp only [f0, f1, f2, f3, f5, f6, f7, f8, f9, f10, f11, f12, f13, f14, f19, f20, f21, f22, f23, f24, f25, f26, f27, f28, f29, f30, f31]
            clear hold hnew
            generalize s 4 = u4
            generalize s 15 = u15
            generalize s 16 = u16
            generalize s 17 = u17
            generalize s 18 = u18
            generalize s 32 = u32
            go_wp2
            go_roundw
            case rel => exact ⟨k + 1, by omega, by go_num, HF, (hE.trans hE0).trans hEr⟩
            case measure => simp [intOf]; omega
          · have HF : Hid (fitsL l r = false) := Lib.hid (fitsL_not k l r _ _ HY.out HX.out (.inr hkk))
            clear hrr
            go_wp2_with fail
            rw [← hw0]
            obtain ⟨g, hg⟩ : ∃ g, g = wr.heap.size := ⟨_, rfl⟩
            rw [← hg] at B0 ⊢
            refine wp_region_slots hmix [fun v _ => v = vv vk vn vs, fun v _ => v = .bool true, fun v _ => v = .bool false, fun v _ => v = .bool false, fun v _ => v = .pointer (some ⟨g, 0, none⟩), fun v _ => v = .int .i64 vk, fun v _ => v = .slice (some ⟨b2, off', none⟩) m cap, fun v _ => v = .int .i64 (k : Int), fun v _ => v = .pointer (some ⟨b2, off' + k * 2, none⟩), fun v _ => v = .pointer (some ⟨b2, off' + k * 2 + 1, none⟩), fun v _ => v = .int .i64 ck, fun v _ => v = .bool true, fun v _ => v = .bool true]
              33 rfl (by kernel_rfl) ⟨mono_eq _, mono_eq _, mono_eq _, mono_eq _, mono_eq _, mono_eq _, mono_eq _, mono_eq _, mono_eq _, mono_eq _, mono_eq _, mono_eq _, mono_eq _, trivial⟩ ?_ ?_
            · refine ops_cons 0 ?_ (ops_cons 1 ?_ (ops_cons 2 ?_ (ops_cons 3 ?_ (ops_cons 4 ?_ (ops_cons 5 ?_ (ops_cons 6 ?_ (ops_cons 7 ?_ (ops_cons 8 ?_ (ops_cons 9 ?_ (ops_cons 10 ?_ (ops_cons 11 ?_ (ops_cons 12 ?_ (ops_nil 13)))))))))))))
              · refine op_value fun a w c => ⟨(wanted_plain rfl), _, run_load_val rfl ((c.was 6 (by kernel_rfl) rfl) : a.eval (.tmp 6) = .pointer (some ⟨g, 0, none⟩)) (B0.ev c.ev), rfl⟩
              · refine op_call fun a w c => ⟨(wanted_plain rfl), 39, #[vv vk vn vs], ?_, ?_⟩
                · rw [run_call 39 _ _ rfl (by kernel_rfl)]
                  have e19 : a.eval (.tmp 19) = vv vk vn vs := (c.new 0 19 (by kernel_rfl) (by kernel_rfl))
                  simp [e19]
                · refine (HV w).mono ?_
                  rintro e w2 ⟨rfl, hE⟩
                  exact ⟨_, rfl, hE, rfl⟩
              · refine op_value fun a w c => ⟨(wanted_plain rfl), .bool false, ?_, rfl⟩
                have e20 : a.eval (.tmp 20) = .bool true := (c.new 1 20 (by kernel_rfl) (by kernel_rfl))
                generalize a.eval = ρ at e20 ⊢
                simp [execOp, e20, go_sem]
              · refine op_value fun a w c => ⟨(wanted_plain rfl), _, run_move _ rfl w, (c.new 2 21 (by kernel_rfl) (by kernel_rfl))⟩
              · refine op_value fun a w c => ⟨(wanted_yes rfl (by kernel_rfl) (c.new 3 22 (by kernel_rfl) (by kernel_rfl))), .pointer (some ⟨g, 0, none⟩), ?_, rfl⟩
                have e6 : a.eval (.tmp 6) = .pointer (some ⟨g, 0, none⟩) := (c.was 6 (by kernel_rfl) rfl)
                generalize a.eval = ρ at e6 ⊢
                simp [execOp, e6, go_sem]
              · refine op_value fun a w c => ⟨(wanted_yes rfl (by kernel_rfl) (c.new 3 22 (by kernel_rfl) (by kernel_rfl))), .int .i64 vk, ?_, rfl⟩
                have e23 : a.eval (.tmp 23) = .pointer (some ⟨g, 0, none⟩) := (c.new 4 23 (by kernel_rfl) (by kernel_rfl))
                have hc := (B0.ev c.ev).c0
                generalize a.eval = ρ at e23 ⊢
                simp [execOp, e23, hc, go_sem]
              · refine op_value fun a w c => ⟨(wanted_yes rfl (by kernel_rfl) (c.new 3 22 (by kernel_rfl) (by kernel_rfl))), _, run_move _ rfl w, (c.was 0 (by kernel_rfl) rfl)⟩
              · refine op_value fun a w c => ⟨(wanted_yes rfl (by kernel_rfl) (c.new 3 22 (by kernel_rfl) (by kernel_rfl))), _, run_move _ rfl w, (c.was 5 (by kernel_rfl) rfl)⟩
              · refine op_value fun a w c => ⟨(wanted_yes rfl (by kernel_rfl) (c.new 3 22 (by kernel_rfl) (by kernel_rfl))), .pointer (some ⟨b2, off' + k * 2, none⟩), ?_, rfl⟩
                have e25 : a.eval (.tmp 25) = .slice (some ⟨b2, off', none⟩) m cap := (c.new 6 25 (by kernel_rfl) (by kernel_rfl))
                have e26 : a.eval (.tmp 26) = .int .i64 (k : Int) := (c.new 7 26 (by kernel_rfl) (by kernel_rfl))
                generalize a.eval = ρ at e25 e26 ⊢
                simp [execOp, e25, e26, go_sem, i1, i2]
              · refine op_value fun a w c => ⟨(wanted_yes rfl (by kernel_rfl) (c.new 3 22 (by kernel_rfl) (by kernel_rfl))), .pointer (some ⟨b2, off' + k * 2 + 1, none⟩), ?_, rfl⟩
                have e27 : a.eval (.tmp 27) = .pointer (some ⟨b2, off' + k * 2, none⟩) := (c.new 8 27 (by kernel_rfl) (by kernel_rfl))
                generalize a.eval = ρ at e27 ⊢
                simp [execOp, e27, go_sem]
              · refine op_value fun a w c => ⟨(wanted_yes rfl (by kernel_rfl) (c.new 3 22 (by kernel_rfl) (by kernel_rfl))), .int .i64 ck, ?_, rfl⟩
                have e28 : a.eval (.tmp 28) = .pointer (some ⟨b2, off' + k * 2 + 1, none⟩) := (c.new 9 28 (by kernel_rfl) (by kernel_rfl))
                have hc := (c.ev.cell (p := ⟨_, _, none⟩) hb2).trans d1
                generalize a.eval = ρ at e28 ⊢
                simp [execOp, e28, hc, go_sem]
              · refine op_value fun a w c => ⟨(wanted_yes rfl (by kernel_rfl) (c.new 3 22 (by kernel_rfl) (by kernel_rfl))), .bool true, ?_, rfl⟩
                have e24 : a.eval (.tmp 24) = .int .i64 vk := (c.new 5 24 (by kernel_rfl) (by kernel_rfl))
                have e29 : a.eval (.tmp 29) = .int .i64 ck := (c.new 10 29 (by kernel_rfl) (by kernel_rfl))
                generalize a.eval = ρ at e24 e29 ⊢
                simp [execOp, e24, e29, go_sem, hkk]
              · refine op_value fun a w c => ⟨(wanted_plain rfl), _, run_pick_false rfl (c.new 3 22 (by kernel_rfl) (by kernel_rfl)) w, (c.new 11 30 (by kernel_rfl) (by kernel_rfl))⟩
            intro s w4 hEr hold hnew
            have f0 : s 0 = .slice (some ⟨b2, off', none⟩) m cap := hold 0 (by kernel_rfl)
            have f1 : s 1 = .slice (some ⟨b1, off, none⟩) m cap' := hold 1 (by kernel_rfl)
            have f2 : s 2 = undef := hold 2 (by kernel_rfl)
            have f3 : s 3 = undef := hold 3 (by kernel_rfl)
            have f5 : s 5 = .int .i64 (k : Int) := hold 5 (by kernel_rfl)
            have f6 : s 6 = .pointer (some ⟨g, 0, none⟩) := hold 6 (by kernel_rfl)
            have f7 : s 7 = .slice (some ⟨b1, off, none⟩) m cap' := hold 7 (by kernel_rfl)
            have f8 : s 8 = .int .i64 (m : Int) := hold 8 (by kernel_rfl)
            have f9 : s 9 = .slice (some ⟨b2, off', none⟩) m cap := hold 9 (by kernel_rfl)
            have f10 : s 10 = .int .i64 (m : Int) := hold 10 (by kernel_rfl)
            have f11 : s 11 = .bool false := hold 11 (by kernel_rfl)
            have f12 : s 12 = .slice (some ⟨b1, off, none⟩) m cap' := hold 12 (by kernel_rfl)
            have f13 : s 13 = .int .i64 (m : Int) := hold 13 (by kernel_rfl)
            have f14 : s 14 = .int .i64 (k : Int) := hold 14 (by kernel_rfl)
            have f19 : s 19 = vv vk vn vs := hnew 0 19 (by kernel_rfl)
            have f20 : s 20 = .bool true := hnew 1 20 (by kernel_rfl)
            have f21 : s 21 = .bool false := hnew 2 21 (by kernel_rfl)
            have f22 : s 22 = .bool false := hnew 3 22 (by kernel_rfl)
            have f23 : s 23 = .pointer (some ⟨g, 0, none⟩) := hnew 4 23 (by kernel_rfl)
            have f24 : s 24 = .int .i64 vk := hnew 5 24 (by kernel_rfl)
            have f25 : s 25 = .slice (some ⟨b2, off', none⟩) m cap := hnew 6 25 (by kernel_rfl)
            have f26 : s 26 = .int .i64 (k : Int) := hnew 7 26 (by kernel_rfl)
            have f27 : s 27 = .pointer (some ⟨b2, off' + k * 2, none⟩) := hnew 8 27 (by kernel_rfl)
            have f28 : s 28 = .pointer (some ⟨b2, off' + k * 2 + 1, none⟩) := hnew 9 28 (by kernel_rfl)
            have f29 : s 29 = .int .i64 ck := hnew 10 29 (by kernel_rfl)
            have f30 : s 30 = .bool true := hnew 11 30 (by kernel_rfl)
            have f31 : s 31 = .bool true := hnew 12 31 (by kernel_rfl)
            change Exit.then _ _ .normal ⟨#[s 0, s 1, s 2, s 3, s 4, s 5, s 6, s 7, s 8, s 9, s 10, s 11, s 12, s 13, s 14, s 15, s 16, s 17, s 18, s 19, s 20, s 21, s 22, s 23, s 24, s 25, s 26, s 27, s 28, s 29, s 30, s 31, s 32], _⟩ _
            simp only [f0, f1, f2, f3, f5, f6, f7, f8, f9, f10, f11, f12, f13, f14, f19, f20, f21, f22, f23, f24, f25, f26, f27, f28, f29, f30, f31]
            clear hold hnew
            go_wp2
            go_ret
            exact ⟨by rw [HF.out]; rfl, (hE.trans hE0).trans hEr⟩
      · obtain rfl : k = m := by omega
        have HF : Hid (fitsL l r = true) := Lib.hid (by
          have := HT.out
          rwa [List.take_of_length_le (by rw [HL.out]; exact Nat.le_refl _), List.take_of_length_le (by rw [HM.out]; exact Nat.le_refl _)] at this)
        go_wp2
        go_ret
        exact ⟨by rw [HF.out]; rfl, hE⟩
  · have hne : ¬ (m : Int) = (n : Int) := by omega
    have HF : Hid (fitsL l r = false) := Lib.hid (fitsL_ne (by rw [HL.out, HM.out]; omega))
    go_enter Try.func18, Try.ntmps18
    go_wp2
    go_ret
    exact ⟨by rw [HF.out]; rfl, Ev.refl _⟩
end Go.Proofs.Ytkjodlngpdihhaa
