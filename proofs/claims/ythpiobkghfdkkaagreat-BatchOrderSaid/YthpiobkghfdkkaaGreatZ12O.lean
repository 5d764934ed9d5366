/-
  Texts that belong together: The contracts of package row: Columns, Fits, Less. The book of memory: numbers, texts and rows of the laws' own; two rows held against one another. The contract of row.Columns. Chapter 5's runs ('known'). The document's own Columns (chapter 5). What the walks of stage 5's laws share: a Writer and a Reader in new memory; what is put is got. The walk of RowNumbers.
-/
import Derived.Deep.Cut
import Derived.Test.YthpiobkghfdkkaaGreatZ11O
import Derived.Test.YthpiobkghfdkkaaGreatZ8O
import Derived.Test.YthpiobkghfdkkaaGreatZ7O
namespace Go.Proofs.YthpiobkghfdkkaaGreat
open Go.RowKit
set_option linter.unusedVariables false

theorem run_to_cols {ρ : Operand → Value} {o : Oper} {x : Operand} {A : Option Addr} {n cap : Nat} (k : Nat) {c : Operand} (ho : o.op = .slice 43 x none (some c) none) (h : ρ x = .slice A n cap) (hc : ρ c = .int .i64 (k : Int)) (hk : k ≤ cap) (w : World) :
    (execOp ρ o).run Tryz.prog w = .ok (.value (.slice A k cap)) w := by
  have h1 : (k : Int) ≤ (cap : Int) := by omega
  have h2 : (0 : Int) ≤ (k : Int) := by omega
  have ht : Tryz.prog.underlying 43 = some (.slice (Tryz.prog.elem 43)) := by kernel_rfl
  have hs : (sizeOf (Tryz.prog.elem 43)).run Tryz.prog w = .ok 2 w := by kernel_rfl
  unfold execOp
  rw [ho]
  simp [h, hc, run_sliceAt_slice w 43 _ _ _ _ ht, run_slice_h w 43 A n cap ht .i64 (k : Int) h2 h1, hs, Result.andThen, sliced, Addr.add]
/-- A column in its own box. -/
structure Colbox (g : Nat) (s : ByteArray) (k : Int) (w : World) : Prop where
  blk : w.heap[g]? = some (.cells #[.string s, .int .i64 k] 89 (0, 0))
theorem Colbox.c0 {g : Nat} {s : ByteArray} {k : Int} {w : World} (h : Colbox g s k w) : w.cell? ⟨g, 0, none⟩ = some (.string s) := by rw [Lib.cell_of_heap h.blk]; rfl
theorem Colbox.c1 {g : Nat} {s : ByteArray} {k : Int} {w : World} (h : Colbox g s k w) : w.cell? ⟨g, 1, none⟩ = some (.int .i64 k) := by rw [Lib.cell_of_heap h.blk]; rfl
theorem Colbox.ev {g : Nat} {s : ByteArray} {k : Int} {w w' : World} (h : Colbox g s k w) (he : Ev w w') : Colbox g s k w' :=
  ⟨by rw [he.block g (Array.getElem?_eq_some_iff.1 h.blk).1]; exact h.blk⟩
theorem Colbox.new (s : ByteArray) (k : Int) (w : World) : Colbox w.heap.size s k (w.alloc (.cells #[.string s, .int .i64 k] 89)) := ⟨heap_alloc_new w _⟩

set_option maxRecDepth 100000 in
set_option maxHeartbeats 4000000 in
theorem row_less {A B : Option Addr} {n m cap cap' : Nat} {a b : List V} (w : World) (h : Vs w A n cap a) (h' : Vs w B m cap' b) :
    Calls Tryz.prog 76 #[.slice A n cap, .slice B m cap'] w fun e w' => e = .returned (.bool (lessR a b)) ∧ Ev w w' := by
  have hn := h.le
  have hm := h.max
  have hn' := h'.le
  have hm' := h'.max
  have HL := Lib.hid h.len
  have HM := Lib.hid h'.len
  have HR := Lib.hid (fun w1 (h1 : Vs w1 A n cap a) => row_right w1 h1)
  have HR' := Lib.hid (fun w1 (h1 : Vs w1 B m cap' b) => row_right w1 h1)
  have HS := Lib.hid (fun w1 (h1 : Vs w1 A n cap a) (h2 : Vs w1 B m cap' b) => row_shared w1 h1 h2)
  have hmix : Tryz.prog.follows .mixedOrders = true := by kernel_rfl
  unfold lessR
  generalize rightR a = r at *
  generalize rightR b = r' at *
  cases r
  · go_enter Tryz.func76, Tryz.ntmps76
    go_wp2_with (first | ((with_reducible refine (HR.out _ h).mono ?_); rintro x w1 ⟨rfl, hE1⟩))
    go_ret
    exact ⟨rfl, hE1⟩
  · cases r'
    · go_enter Tryz.func76, Tryz.ntmps76
      go_wp2_with (first | ((with_reducible refine (HR.out _ h).mono ?_); rintro x w1 ⟨rfl, hE1⟩) | ((with_reducible refine (HR'.out _ (h'.ev hE1)).mono ?_); rintro x w2 ⟨rfl, hE2⟩))
      go_ret
      exact ⟨rfl, hE1.trans hE2⟩
    · simp only [Bool.and_self, if_true]
      go_enter Tryz.func76, Tryz.ntmps76
      go_upto_region 4 with (first | ((with_reducible refine (HR.out _ h).mono ?_); rintro x w1 ⟨rfl, hE1⟩) | ((with_reducible refine (HR'.out _ (h'.ev hE1)).mono ?_); rintro x w2 ⟨rfl, hE2⟩) | ((with_reducible refine (HS.out _ (h.ev (hE1.trans hE2)) (h'.ev (hE1.trans hE2))).mono ?_); rintro x w3 ⟨⟨i, rfl, HI⟩, hE3⟩; replace HI := Lib.hid HI; have hE := (hE1.trans hE2).trans hE3))
      have hi1 : i ≤ n := by rw [← HL.out]; exact HI.out.le
      have hi2 : i ≤ m := by rw [← HM.out]; exact HI.out.le'
      by_cases ha : i < n
      · have i2 : (i : Int) < (n : Int) := by omega
        by_cases hb : i < m
        · have i3 : (i : Int) < (m : Int) := by omega
          obtain ⟨b1, off, ⟨xk, xn, xs⟩, rfl, hb1, hx, c0, c1, c2⟩ := (h.ev hE).vcell ha
          obtain ⟨b2, off', ⟨yk, yn, ys⟩, rfl, hb2, hy, d0, d1, d2⟩ := (h'.ev hE).vcell hb
          have i1 : (0 : Int) ≤ (i : Int) := by omega
          simp only at c0 c1 c2 d0 d1 d2
          have HF := Lib.hid (lessL_at HI.out.same hx hy (HI.out.differ _ _ hx hy))
          obtain ⟨x, hx⟩ : ∃ x, lessV xk xn xs yk yn ys = x := ⟨_, rfl⟩
          have HX := Lib.hid hx
          clear hx hy
          go_wp2_with fail
          refine wp_region_slots hmix [fun v _ => v = .slice (some ⟨b1, off, none⟩) n cap, fun v _ => v = .int .i64 (i : Int), fun v _ => v = .pointer (some ⟨b1, off + i * 3, none⟩), fun v _ => v = vv xk xn xs, fun v _ => v = .slice (some ⟨b2, off', none⟩) m cap', fun v _ => v = .int .i64 (i : Int), fun v _ => v = .pointer (some ⟨b2, off' + i * 3, none⟩), fun v _ => v = vv yk yn ys, fun v _ => v = .bool x, fun v _ => v = .bool x]
            41 rfl (by kernel_rfl) ⟨mono_eq _, mono_eq _, mono_eq _, mono_eq _, mono_eq _, mono_eq _, mono_eq _, mono_eq _, mono_eq _, mono_eq _, trivial⟩ ?_ ?_
          · refine ops_cons 0 ?_ (ops_cons 1 ?_ (ops_cons 2 ?_ (ops_cons 3 ?_ (ops_cons 4 ?_ (ops_cons 5 ?_ (ops_cons 6 ?_ (ops_cons 7 ?_ (ops_cons 8 ?_ (ops_cons 9 ?_ (ops_nil 10))))))))))
            · refine op_value fun a w c => ⟨(wanted_plain rfl), _, run_move _ rfl w, (c.was 0 (by kernel_rfl) rfl)⟩
            · refine op_value fun a w c => ⟨(wanted_plain rfl), _, run_move _ rfl w, (c.was 5 (by kernel_rfl) rfl)⟩
            · refine op_value fun a w c => ⟨(wanted_plain rfl), .pointer (some ⟨b1, off + i * 3, none⟩), ?_, rfl⟩
              have e27 : a.eval (.tmp 27) = .slice (some ⟨b1, off, none⟩) n cap := (c.new 0 27 (by kernel_rfl) (by kernel_rfl))
              have e28 : a.eval (.tmp 28) = .int .i64 (i : Int) := (c.new 1 28 (by kernel_rfl) (by kernel_rfl))
              generalize a.eval = ρ at e27 e28 ⊢
              simp [execOp, e27, e28, go_sem, i1, i2]
            · refine op_value fun a w c => ⟨(wanted_plain rfl), _, run_load_elem rfl ((c.new 2 29 (by kernel_rfl) (by kernel_rfl)) : a.eval (.tmp 29) = .pointer (some ⟨b1, off + i * 3, none⟩)) ((c.ev.cell (p := ⟨_, _, none⟩) hb1).trans c0) ((c.ev.cell (p := ⟨_, _, none⟩) hb1).trans c1) ((c.ev.cell (p := ⟨_, _, none⟩) hb1).trans c2), rfl⟩
            · refine op_value fun a w c => ⟨(wanted_plain rfl), _, run_move _ rfl w, (c.was 1 (by kernel_rfl) rfl)⟩
            · refine op_value fun a w c => ⟨(wanted_plain rfl), _, run_move _ rfl w, (c.was 5 (by kernel_rfl) rfl)⟩
            · refine op_value fun a w c => ⟨(wanted_plain rfl), .pointer (some ⟨b2, off' + i * 3, none⟩), ?_, rfl⟩
              have e31 : a.eval (.tmp 31) = .slice (some ⟨b2, off', none⟩) m cap' := (c.new 4 31 (by kernel_rfl) (by kernel_rfl))
              have e32 : a.eval (.tmp 32) = .int .i64 (i : Int) := (c.new 5 32 (by kernel_rfl) (by kernel_rfl))
              generalize a.eval = ρ at e31 e32 ⊢
              simp [execOp, e31, e32, go_sem, i1, i3]
            · refine op_value fun a w c => ⟨(wanted_plain rfl), _, run_load_elem rfl ((c.new 6 33 (by kernel_rfl) (by kernel_rfl)) : a.eval (.tmp 33) = .pointer (some ⟨b2, off' + i * 3, none⟩)) ((c.ev.cell (p := ⟨_, _, none⟩) hb2).trans d0) ((c.ev.cell (p := ⟨_, _, none⟩) hb2).trans d1) ((c.ev.cell (p := ⟨_, _, none⟩) hb2).trans d2), rfl⟩
            · refine op_call fun a w c => ⟨(wanted_plain rfl), 107, #[vv xk xn xs, vv yk yn ys], ?_, ?_⟩
              · rw [run_call 107 _ _ rfl (by kernel_rfl)]
                have e30 : a.eval (.tmp 30) = vv xk xn xs := (c.new 3 30 (by kernel_rfl) (by kernel_rfl))
                have e34 : a.eval (.tmp 34) = vv yk yn ys := (c.new 7 34 (by kernel_rfl) (by kernel_rfl))
                simp [e30, e34]
              · refine (value_less _ _ _ _ _ _ w).mono ?_
                rintro e w2 ⟨rfl, hE⟩
                exact ⟨_, rfl, hE, congrArg Value.bool HX.out⟩
            · refine op_value fun a w c => ⟨(wanted_plain rfl), _, run_assign _ rfl w, (c.new 8 35 (by kernel_rfl) (by kernel_rfl))⟩
          intro s w4 hEr hold hnew
          have f0 : s 0 = .slice (some ⟨b1, off, none⟩) n cap := hold 0 (by kernel_rfl)
          have f1 : s 1 = .slice (some ⟨b2, off', none⟩) m cap' := hold 1 (by kernel_rfl)
          have f5 : s 5 = .int .i64 (i : Int) := hold 5 (by kernel_rfl)
          have f4 : s 4 = .bool x := hnew 9 4 (by kernel_rfl)
          have f27 : s 27 = .slice (some ⟨b1, off, none⟩) n cap := hnew 0 27 (by kernel_rfl)
          have f28 : s 28 = .int .i64 (i : Int) := hnew 1 28 (by kernel_rfl)
          have f29 : s 29 = .pointer (some ⟨b1, off + i * 3, none⟩) := hnew 2 29 (by kernel_rfl)
          have f30 : s 30 = vv xk xn xs := hnew 3 30 (by kernel_rfl)
          have f31 : s 31 = .slice (some ⟨b2, off', none⟩) m cap' := hnew 4 31 (by kernel_rfl)
          have f32 : s 32 = .int .i64 (i : Int) := hnew 5 32 (by kernel_rfl)
          have f33 : s 33 = .pointer (some ⟨b2, off' + i * 3, none⟩) := hnew 6 33 (by kernel_rfl)
          have f34 : s 34 = vv yk yn ys := hnew 7 34 (by kernel_rfl)
          have f35 : s 35 = .bool x := hnew 8 35 (by kernel_rfl)
          change Exit.then _ _ .normal ⟨#[s 0, s 1, s 2, s 3, s 4, s 5, s 6, s 7, s 8, s 9, s 10, s 11, s 12, s 13, s 14, s 15, s 16, s 17, s 18, s 19, s 20, s 21, s 22, s 23, s 24, s 25, s 26, s 27, s 28, s 29, s 30, s 31, s 32, s 33, s 34, s 35, s 36, s 37, s 38, s 39, s 40], _⟩ _
          simp only [f0, f1, f5, f4, f27, f28, f29, f30, f31, f32, f33, f34, f35]
          clear hold hnew
          go_wp2
          go_ret
          exact ⟨by rw [HF.out]; exact congrArg (fun b => Ending.returned (Value.bool b)) HX.out.symm, hE.trans hEr⟩
        · have i3 : ¬ (i : Int) < (m : Int) := by omega
          have HF := Lib.hid (lessL_end HI.out.same HI.out.le HI.out.le' (.inr (by rw [HM.out]; omega)))
          have e1 : ¬ (n : Int) < (m : Int) := by omega
          have e2 : decide (a.length < b.length) = false := decide_eq_false (by rw [HL.out, HM.out]; omega)
          go_wp2
          go_ret
          exact ⟨by rw [HF.out, e2]; rfl, hE⟩
      · have i2 : ¬ (i : Int) < (n : Int) := by omega
        have HF := Lib.hid (lessL_end HI.out.same HI.out.le HI.out.le' (.inl (by rw [HL.out]; omega)))
        have e2 : decide (a.length < b.length) = decide (n < m) := by rw [HL.out, HM.out]
        go_wp2
        go_ret
        exact ⟨by rw [HF.out, e2]; rfl, hE⟩

set_option maxRecDepth 100000 in
set_option maxHeartbeats 4000000 in
theorem row_fits {A B : Option Addr} {n m cap cap' : Nat} {l : List C} {r : List V} (w : World) (h : Cs w A n cap l) (h' : Vs w B m cap' r) :
    Calls Tryz.prog 92 #[.slice A n cap, .slice B m cap'] w fun e w' => e = .returned (.bool (fitsL l r)) ∧ Ev w w' := by
  have hn := h.le
  have hm := h.max
  have hn' := h'.le
  have hm' := h'.max
  have HL := Lib.hid h.len
  have HM := Lib.hid h'.len
  have hmix : Tryz.prog.follows .mixedOrders = true := by kernel_rfl
  by_cases hnm : m = n
  · subst hnm
    go_enter Tryz.func92, Tryz.ntmps92
    go_wp2
    go_loopw [14] (fun i wr => ∃ k : Nat, k ≤ m ∧ i = .int .i64 k ∧ Hid (fitsL (l.take k) (r.take k) = true) ∧ Ev w wr) (fun i _ => m - (intOf i).toNat)
    case atStart => exact ⟨0, Nat.zero_le _, rfl, Lib.hid (by simp [fitsL]), Ev.refl _⟩
    case round =>
      obtain ⟨k, hk, rfl, HT, hE⟩ := hrel
      by_cases hlt : k < m
      · obtain ⟨b2, off', ⟨xs, ck⟩, rfl, hb2, hy, d0, d1⟩ := (h.ev hE).ccell hlt
        obtain ⟨b1, off, ⟨vk, vn, vs⟩, rfl, hb1, hx, c0, c1, c2⟩ := (h'.ev hE).vcell hlt
        simp only at c0 c1 c2 d0 d1
        have i1 : (0 : Int) ≤ (k : Int) := by omega
        have i2 : (k : Int) < (m : Int) := by omega
        have HX := Lib.hid hx
        have HY := Lib.hid hy
        obtain ⟨w0, hw0⟩ : ∃ w0, w0 = wr.alloc (.cells #[.int .i64 vk, .int .i64 vn, .string vs] 32) := ⟨_, rfl⟩
        have B0 : Boxed wr.heap.size vk vn vs w0 := hw0 ▸ Boxed.new vk vn vs wr
        have hE0 : Ev wr w0 := hw0 ▸ Ev.alloc wr _
        replace d1 := (hE0.cell (p := ⟨b2, off' + k * 2 + 1, none⟩) hb2).trans d1
        replace hb2 : b2 < w0.heap.size := Nat.lt_of_lt_of_le hb2 hE0.size
        have HV := fun w1 => value_right vk vn vs w1
        obtain ⟨rr, hrr⟩ : ∃ rr, rightV vk vn vs = rr := ⟨_, rfl⟩
        rw [hrr] at HV
        clear hx hy h h'
        cases rr
        · have HF : Hid (fitsL l r = false) := Lib.hid (fitsL_not k l r _ _ HY.out HX.out (.inl hrr))
          clear hrr
          go_wp2_with fail
          rw [← hw0]
          obtain ⟨g, hg⟩ : ∃ g, g = wr.heap.size := ⟨_, rfl⟩
          rw [← hg] at B0 ⊢
          refine wp_region_slots hmix [fun v _ => v = vv vk vn vs, fun v _ => v = .bool false, fun v _ => v = .bool true, fun v _ => v = .bool true, fun _ _ => True, fun _ _ => True, fun _ _ => True, fun _ _ => True, fun _ _ => True, fun _ _ => True, fun _ _ => True, fun _ _ => True, fun v _ => v = .bool true]
            33 rfl (by kernel_rfl) ⟨mono_eq _, mono_eq _, mono_eq _, mono_eq _, mono_true, mono_true, mono_true, mono_true, mono_true, mono_true, mono_true, mono_true, mono_eq _, trivial⟩ ?_ ?_
          · refine ops_cons 0 ?_ (ops_cons 1 ?_ (ops_cons 2 ?_ (ops_cons 3 ?_ (ops_cons 4 ?_ (ops_cons 5 ?_ (ops_cons 6 ?_ (ops_cons 7 ?_ (ops_cons 8 ?_ (ops_cons 9 ?_ (ops_cons 10 ?_ (ops_cons 11 ?_ (ops_cons 12 ?_ (ops_nil 13)))))))))))))
            · refine op_value fun a w c => ⟨(wanted_plain rfl), _, run_load_val rfl ((c.was 6 (by kernel_rfl) rfl) : a.eval (.tmp 6) = .pointer (some ⟨g, 0, none⟩)) (B0.ev c.ev), rfl⟩
            · refine op_call fun a w c => ⟨(wanted_plain rfl), 104, #[vv vk vn vs], ?_, ?_⟩
              · rw [run_call 104 _ _ rfl (by kernel_rfl)]
                have e19 : a.eval (.tmp 19) = vv vk vn vs := (c.new 0 19 (by kernel_rfl) (by kernel_rfl))
                simp [e19]
              · refine (HV w).mono ?_
                rintro e w2 ⟨rfl, hE⟩
                exact ⟨_, rfl, hE, rfl⟩
            · refine op_value fun a w c => ⟨(wanted_plain rfl), .bool true, ?_, rfl⟩
              have e20 : a.eval (.tmp 20) = .bool false := (c.new 1 20 (by kernel_rfl) (by kernel_rfl))
              generalize a.eval = ρ at e20 ⊢
              simp [execOp, e20, go_sem]
            · refine op_value fun a w c => ⟨(wanted_plain rfl), _, run_move _ rfl w, (c.new 2 21 (by kernel_rfl) (by kernel_rfl))⟩
            · refine op_skip fun a w c => ⟨(wanted_no rfl (by kernel_rfl) (c.new 3 22 (by kernel_rfl) (by kernel_rfl)) (by decide)), trivial⟩
            · refine op_skip fun a w c => ⟨(wanted_no rfl (by kernel_rfl) (c.new 3 22 (by kernel_rfl) (by kernel_rfl)) (by decide)), trivial⟩
            · refine op_skip fun a w c => ⟨(wanted_no rfl (by kernel_rfl) (c.new 3 22 (by kernel_rfl) (by kernel_rfl)) (by decide)), trivial⟩
            · refine op_skip fun a w c => ⟨(wanted_no rfl (by kernel_rfl) (c.new 3 22 (by kernel_rfl) (by kernel_rfl)) (by decide)), trivial⟩
            · refine op_skip fun a w c => ⟨(wanted_no rfl (by kernel_rfl) (c.new 3 22 (by kernel_rfl) (by kernel_rfl)) (by decide)), trivial⟩
            · refine op_skip fun a w c => ⟨(wanted_no rfl (by kernel_rfl) (c.new 3 22 (by kernel_rfl) (by kernel_rfl)) (by decide)), trivial⟩
            · refine op_skip fun a w c => ⟨(wanted_no rfl (by kernel_rfl) (c.new 3 22 (by kernel_rfl) (by kernel_rfl)) (by decide)), trivial⟩
            · refine op_skip fun a w c => ⟨(wanted_no rfl (by kernel_rfl) (c.new 3 22 (by kernel_rfl) (by kernel_rfl)) (by decide)), trivial⟩
            · refine op_value fun a w c => ⟨(wanted_plain rfl), _, run_pick_true rfl (c.new 3 22 (by kernel_rfl) (by kernel_rfl)) w, (evc a _)⟩
          intro s w4 hEr hold hnew
          have f0 : s 0 = .slice (some ⟨b2, off', none⟩) m cap := hold 0 (by kernel_rfl)
          have f1 : s 1 = .slice (some ⟨b1, off, none⟩) m cap' := hold 1 (by kernel_rfl)
          have f2 : s 2 = undef := hold 2 (by kernel_rfl)
          have f3 : s 3 = undef := hold 3 (by kernel_rfl)
          have f5 : s 5 = .int .i64 (k : Int) := hold 5 (by kernel_rfl)
          have f6 : s 6 = .pointer (some ⟨g, 0, none⟩) := hold 6 (by kernel_rfl)
          have f7 : s 7 = .slice (some ⟨b1, off, none⟩) m cap' := hold 7 (by kernel_rfl)
          have f8 : s 8 = .int .i64 (m : Int) := hold 8 (by kernel_rfl)
          have f9 : s 9 = .slice (some ⟨b2, off', none⟩) m cap := hold 9 (by kernel_rfl)
          have f10 : s 10 = .int .i64 (m : Int) := hold 10 (by kernel_rfl)
          have f11 : s 11 = .bool false := hold 11 (by kernel_rfl)
          have f12 : s 12 = .slice (some ⟨b1, off, none⟩) m cap' := hold 12 (by kernel_rfl)
          have f13 : s 13 = .int .i64 (m : Int) := hold 13 (by kernel_rfl)
          have f14 : s 14 = .int .i64 (k : Int) := hold 14 (by kernel_rfl)
          have f19 : s 19 = vv vk vn vs := hnew 0 19 (by kernel_rfl)
          have f20 : s 20 = .bool false := hnew 1 20 (by kernel_rfl)
          have f21 : s 21 = .bool true := hnew 2 21 (by kernel_rfl)
          have f22 : s 22 = .bool true := hnew 3 22 (by kernel_rfl)
          have f31 : s 31 = .bool true := hnew 12 31 (by kernel_rfl)
          change Exit.then _ _ .normal ⟨#[s 0, s 1, s 2, s 3, s 4, s 5, s 6, s 7, s 8, s 9, s 10, s 11, s 12, s 13, s 14, s 15, s 16, s 17, s 18, s 19, s 20, s 21, s 22, s 23, s 24, s 25, s 26, s 27, s 28, s 29, s 30, s 31, s 32], _⟩ _
          simp only [f0, f1, f2, f3, f5, f6, f7, f8, f9, f10, f11, f12, f13, f14, f19, f20, f21, f22, f31]
          clear hold hnew
          go_wp2
          go_ret
          exact ⟨by rw [HF.out]; rfl, (hE.trans hE0).trans hEr⟩
        · by_cases hkk : vk = ck
          · subst hkk
            have HF := Lib.hid (fitsL_step k l r _ _ HT.out HY.out HX.out hrr rfl)
            clear hrr
            go_wp2_with fail
            rw [← hw0]
            obtain ⟨g, hg⟩ : ∃ g, g = wr.heap.size := ⟨_, rfl⟩
            rw [← hg] at B0 ⊢
            refine wp_region_slots hmix [fun v _ => v = vv vk vn vs, fun v _ => v = .bool true, fun v _ => v = .bool false, fun v _ => v = .bool false, fun v _ => v = .pointer (some ⟨g, 0, none⟩), fun v _ => v = .int .i64 vk, fun v _ => v = .slice (some ⟨b2, off', none⟩) m cap, fun v _ => v = .int .i64 (k : Int), fun v _ => v = .pointer (some ⟨b2, off' + k * 2, none⟩), fun v _ => v = .pointer (some ⟨b2, off' + k * 2 + 1, none⟩), fun v _ => v = .int .i64 vk, fun v _ => v = .bool false, fun v _ => v = .bool false]
              33 rfl (by kernel_rfl) ⟨mono_eq _, mono_eq _, mono_eq _, mono_eq _, mono_eq _, mono_eq _, mono_eq _, mono_eq _, mono_eq _, mono_eq _, mono_eq _, mono_eq _, mono_eq _, trivial⟩ ?_ ?_
            · refine ops_cons 0 ?_ (ops_cons 1 ?_ (ops_cons 2 ?_ (ops_cons 3 ?_ (ops_cons 4 ?_ (ops_cons 5 ?_ (ops_cons 6 ?_ (ops_cons 7 ?_ (ops_cons 8 ?_ (ops_cons 9 ?_ (ops_cons 10 ?_ (ops_cons 11 ?_ (ops_cons 12 ?_ (ops_nil 13)))))))))))))
              · refine op_value fun a w c => ⟨(wanted_plain rfl), _, run_load_val rfl ((c.was 6 (by kernel_rfl) rfl) : a.eval (.tmp 6) = .pointer (some ⟨g, 0, none⟩)) (B0.ev c.ev), rfl⟩
              · refine op_call fun a w c => ⟨(wanted_plain rfl), 104, #[vv vk vn vs], ?_, ?_⟩
                · rw [run_call 104 _ _ rfl (by kernel_rfl)]
                  have e19 : a.eval (.tmp 19) = vv vk vn vs := (c.new 0 19 (by kernel_rfl) (by kernel_rfl))
                  simp [e19]
                · refine (HV w).mono ?_
                  rintro e w2 ⟨rfl, hE⟩
                  exact ⟨_, rfl, hE, rfl⟩
              · refine op_value fun a w c => ⟨(wanted_plain rfl), .bool false, ?_, rfl⟩
                have e20 : a.eval (.tmp 20) = .bool true := (c.new 1 20 (by kernel_rfl) (by kernel_rfl))
                generalize a.eval = ρ at e20 ⊢
                simp [execOp, e20, go_sem]
              · refine op_value fun a w c => ⟨(wanted_plain rfl), _, run_move _ rfl w, (c.new 2 21 (by kernel_rfl) (by kernel_rfl))⟩
              · refine op_value fun a w c => ⟨(wanted_yes rfl (by kernel_rfl) (c.new 3 22 (by kernel_rfl) (by kernel_rfl))), .pointer (some ⟨g, 0, none⟩), ?_, rfl⟩
                have e6 : a.eval (.tmp 6) = .pointer (some ⟨g, 0, none⟩) := (c.was 6 (by kernel_rfl) rfl)
                generalize a.eval = ρ at e6 ⊢
                simp [execOp, e6, go_sem]
              · refine op_value fun a w c => ⟨(wanted_yes rfl (by kernel_rfl) (c.new 3 22 (by kernel_rfl) (by kernel_rfl))), .int .i64 vk, ?_, rfl⟩
                have e23 : a.eval (.tmp 23) = .pointer (some ⟨g, 0, none⟩) := (c.new 4 23 (by kernel_rfl) (by kernel_rfl))
                have hc := (B0.ev c.ev).c0
                generalize a.eval = ρ at e23 ⊢
                simp [execOp, e23, hc, go_sem]
              · refine op_value fun a w c => ⟨(wanted_yes rfl (by kernel_rfl) (c.new 3 22 (by kernel_rfl) (by kernel_rfl))), _, run_move _ rfl w, (c.was 0 (by kernel_rfl) rfl)⟩
              · refine op_value fun a w c => ⟨(wanted_yes rfl (by kernel_rfl) (c.new 3 22 (by kernel_rfl) (by kernel_rfl))), _, run_move _ rfl w, (c.was 5 (by kernel_rfl) rfl)⟩
              · refine op_value fun a w c => ⟨(wanted_yes rfl (by kernel_rfl) (c.new 3 22 (by kernel_rfl) (by kernel_rfl))), .pointer (some ⟨b2, off' + k * 2, none⟩), ?_, rfl⟩
                have e25 : a.eval (.tmp 25) = .slice (some ⟨b2, off', none⟩) m cap := (c.new 6 25 (by kernel_rfl) (by kernel_rfl))
                have e26 : a.eval (.tmp 26) = .int .i64 (k : Int) := (c.new 7 26 (by kernel_rfl) (by kernel_rfl))
                generalize a.eval = ρ at e25 e26 ⊢
                simp [execOp, e25, e26, go_sem, i1, i2]
              · refine op_value fun a w c => ⟨(wanted_yes rfl (by kernel_rfl) (c.new 3 22 (by kernel_rfl) (by kernel_rfl))), .pointer (some ⟨b2, off' + k * 2 + 1, none⟩), ?_, rfl⟩
                have e27 : a.eval (.tmp 27) = .pointer (some ⟨b2, off' + k * 2, none⟩) := (c.new 8 27 (by kernel_rfl) (by kernel_rfl))
                generalize a.eval = ρ at e27 ⊢
                simp [execOp, e27, go_sem]
              · refine op_value fun a w c => ⟨(wanted_yes rfl (by kernel_rfl) (c.new 3 22 (by kernel_rfl) (by kernel_rfl))), .int .i64 vk, ?_, rfl⟩
                have e28 : a.eval (.tmp 28) = .pointer (some ⟨b2, off' + k * 2 + 1, none⟩) := (c.new 9 28 (by kernel_rfl) (by kernel_rfl))
                have hc := (c.ev.cell (p := ⟨_, _, none⟩) hb2).trans d1
                generalize a.eval = ρ at e28 ⊢
                simp [execOp, e28, hc, go_sem]
              · refine op_value fun a w c => ⟨(wanted_yes rfl (by kernel_rfl) (c.new 3 22 (by kernel_rfl) (by kernel_rfl))), .bool false, ?_, rfl⟩
                have e24 : a.eval (.tmp 24) = .int .i64 vk := (c.new 5 24 (by kernel_rfl) (by kernel_rfl))
                have e29 : a.eval (.tmp 29) = .int .i64 vk := (c.new 10 29 (by kernel_rfl) (by kernel_rfl))
                generalize a.eval = ρ at e24 e29 ⊢
                simp [execOp, e24, e29, go_sem]
              · refine op_value fun a w c => ⟨(wanted_plain rfl), _, run_pick_false rfl (c.new 3 22 (by kernel_rfl) (by kernel_rfl)) w, (c.new 11 30 (by kernel_rfl) (by kernel_rfl))⟩
            intro s w4 hEr hold hnew
            have f0 : s 0 = .slice (some ⟨b2, off', none⟩) m cap := hold 0 (by kernel_rfl)
            have f1 : s 1 = .slice (some ⟨b1, off, none⟩) m cap' := hold 1 (by kernel_rfl)
            have f2 : s 2 = undef := hold 2 (by kernel_rfl)
            have f3 : s 3 = undef := hold 3 (by kernel_rfl)
            have f5 : s 5 = .int .i64 (k : Int) := hold 5 (by kernel_rfl)
            have f6 : s 6 = .pointer (some ⟨g, 0, none⟩) := hold 6 (by kernel_rfl)
            have f7 : s 7 = .slice (some ⟨b1, off, none⟩) m cap' := hold 7 (by kernel_rfl)
            have f8 : s 8 = .int .i64 (m : Int) := hold 8 (by kernel_rfl)
            have f9 : s 9 = .slice (some ⟨b2, off', none⟩) m cap := hold 9 (by kernel_rfl)
            have f10 : s 10 = .int .i64 (m : Int) := hold 10 (by kernel_rfl)
            have f11 : s 11 = .bool false := hold 11 (by kernel_rfl)
            have f12 : s 12 = .slice (some ⟨b1, off, none⟩) m cap' := hold 12 (by kernel_rfl)
            have f13 : s 13 = .int .i64 (m : Int) := hold 13 (by kernel_rfl)
            have f14 : s 14 = .int .i64 (k : Int) := hold 14 (by kernel_rfl)
            have f19 : s 19 = vv vk vn vs := hnew 0 19 (by kernel_rfl)
            have f20 : s 20 = .bool true := hnew 1 20 (by kernel_rfl)
            have f21 : s 21 = .bool false := hnew 2 21 (by kernel_rfl)
            have f22 : s 22 = .bool false := hnew 3 22 (by kernel_rfl)
            have f23 : s 23 = .pointer (some ⟨g, 0, none⟩) := hnew 4 23 (by kernel_rfl)
            have f24 : s 24 = .int .i64 vk := hnew 5 24 (by kernel_rfl)
            have f25 : s 25 = .slice (some ⟨b2, off', none⟩) m cap := hnew 6 25 (by kernel_rfl)
            have f26 : s 26 = .int .i64 (k : Int) := hnew 7 26 (by kernel_rfl)
            have f27 : s 27 = .pointer (some ⟨b2, off' + k * 2, none⟩) := hnew 8 27 (by kernel_rfl)
            have f28 : s 28 = .pointer (some ⟨b2, off' + k * 2 + 1, none⟩) := hnew 9 28 (by kernel_rfl)
            have f29 : s 29 = .int .i64 vk := hnew 10 29 (by kernel_rfl)
            have f30 : s 30 = .bool false := hnew 11 30 (by kernel_rfl)
            have f31 : s 31 = .bool false := hnew 12 31 (by kernel_rfl)
            change Exit.then _ _ .normal ⟨#[s 0, s 1, s 2, s 3, s 4, s 5, s 6, s 7, s 8, s 9, s 10, s 11, s 12, s 13, s 14, s 15, s 16, s 17, s 18, s 19, s 20, s 21, s 22, s 23, s 24, s 25, s 26, s 27, s 28, s 29, s 30, s 31, s 32], _⟩ _
            simp only [f0, f1, f2, f3, f5, f6, f7, f8, f9, f10, f11, f12, f13, f14, f19, f20, f21, f22, f23, f24, f25, f26, f27, f28, f29, f30, f31]
            clear hold hnew
            generalize s 4 = u4
            generalize s 15 = u15
            generalize s 16 = u16
            generalize s 17 = u17
            generalize s 18 = u18
            generalize s 32 = u32
            go_wp2
            go_roundw
            case rel => exact ⟨k + 1, by omega, by go_num, HF, (hE.trans hE0).trans hEr⟩
            case measure => simp [intOf]; omega
          · have HF : Hid (fitsL l r = false) := Lib.hid (fitsL_not k l r _ _ HY.out HX.out (.inr hkk))
            clear hrr
            go_wp2_with fail
            rw [← hw0]
            obtain ⟨g, hg⟩ : ∃ g, g = wr.heap.size := ⟨_, rfl⟩
            rw [← hg] at B0 ⊢
            refine wp_region_slots hmix [fun v _ => v = vv vk vn vs, fun v _ => v = .bool true, fun v _ => v = .bool false, fun v _ => v = .bool false, fun v _ => v = .pointer (some ⟨g, 0, none⟩), fun v _ => v = .int .i64 vk, fun v _ => v = .slice (some ⟨b2, off', none⟩) m cap, fun v _ => v = .int .i64 (k : Int), fun v _ => v = .pointer (some ⟨b2, off' + k * 2, none⟩), fun v _ => v = .pointer (some ⟨b2, off' + k * 2 + 1, none⟩), fun v _ => v = .int .i64 ck, fun v _ => v = .bool true, fun v _ => v = .bool true]
              33 rfl (by kernel_rfl) ⟨mono_eq _, mono_eq _, mono_eq _, mono_eq _, mono_eq _, mono_eq _, mono_eq _, mono_eq _, mono_eq _, mono_eq _, mono_eq _, mono_eq _, mono_eq _, trivial⟩ ?_ ?_
            · refine ops_cons 0 ?_ (ops_cons 1 ?_ (ops_cons 2 ?_ (ops_cons 3 ?_ (ops_cons 4 ?_ (ops_cons 5 ?_ (ops_cons 6 ?_ (ops_cons 7 ?_ (ops_cons 8 ?_ (ops_cons 9 ?_ (ops_cons 10 ?_ (ops_cons 11 ?_ (ops_cons 12 ?_ (ops_nil 13)))))))))))))
              · refine op_value fun a w c => ⟨(wanted_plain rfl), _, run_load_val rfl ((c.was 6 (by kernel_rfl) rfl) : a.eval (.tmp 6) = .pointer (some ⟨g, 0, none⟩)) (B0.ev c.ev), rfl⟩
              · refine op_call fun a w c => ⟨(wanted_plain rfl), 104, #[vv vk vn vs], ?_, ?_⟩
                · rw [run_call 104 _ _ rfl (by kernel_rfl)]
                  have e19 : a.eval (.tmp 19) = vv vk vn vs := (c.new 0 19 (by kernel_rfl) (by kernel_rfl))
                  simp [e19]
                · refine (HV w).mono ?_
                  rintro e w2 ⟨rfl, hE⟩
                  exact ⟨_, rfl, hE, rfl⟩
              · refine op_value fun a w c => ⟨(wanted_plain rfl), .bool false, ?_, rfl⟩
                have e20 : a.eval (.tmp 20) = .bool true := (c.new 1 20 (by kernel_rfl) (by kernel_rfl))
                generalize a.eval = ρ at e20 ⊢
                simp [execOp, e20, go_sem]
              · refine op_value fun a w c => ⟨(wanted_plain rfl), _, run_move _ rfl w, (c.new 2 21 (by kernel_rfl) (by kernel_rfl))⟩
              · refine op_value fun a w c => ⟨(wanted_yes rfl (by kernel_rfl) (c.new 3 22 (by kernel_rfl) (by kernel_rfl))), .pointer (some ⟨g, 0, none⟩), ?_, rfl⟩
                have e6 : a.eval (.tmp 6) = .pointer (some ⟨g, 0, none⟩) := (c.was 6 (by kernel_rfl) rfl)
                generalize a.eval = ρ at e6 ⊢
                simp [execOp, e6, go_sem]
              · refine op_value fun a w c => ⟨(wanted_yes rfl (by kernel_rfl) (c.new 3 22 (by kernel_rfl) (by kernel_rfl))), .int .i64 vk, ?_, rfl⟩
                have e23 : a.eval (.tmp 23) = .pointer (some ⟨g, 0, none⟩) := (c.new 4 23 (by kernel_rfl) (by kernel_rfl))
                have hc := (B0.ev c.ev).c0
                generalize a.eval = ρ at e23 ⊢
                simp [execOp, e23, hc, go_sem]
              · refine op_value fun a w c => ⟨(wanted_yes rfl (by kernel_rfl) (c.new 3 22 (by kernel_rfl) (by kernel_rfl))), _, run_move _ rfl w, (c.was 0 (by kernel_rfl) rfl)⟩
              · refine op_value fun a w c => ⟨(wanted_yes rfl (by kernel_rfl) (c.new 3 22 (by kernel_rfl) (by kernel_rfl))), _, run_move _ rfl w, (c.was 5 (by kernel_rfl) rfl)⟩
              · refine op_value fun a w c => ⟨(wanted_yes rfl (by kernel_rfl) (c.new 3 22 (by kernel_rfl) (by kernel_rfl))), .pointer (some ⟨b2, off' + k * 2, none⟩), ?_, rfl⟩
                have e25 : a.eval (.tmp 25) = .slice (some ⟨b2, off', none⟩) m cap := (c.new 6 25 (by kernel_rfl) (by kernel_rfl))
                have e26 : a.eval (.tmp 26) = .int .i64 (k : Int) := (c.new 7 26 (by kernel_rfl) (by kernel_rfl))
                generalize a.eval = ρ at e25 e26 ⊢
                simp [execOp, e25, e26, go_sem, i1, i2]
              · refine op_value fun a w c => ⟨(wanted_yes rfl (by kernel_rfl) (c.new 3 22 (by kernel_rfl) (by kernel_rfl))), .pointer (some ⟨b2, off' + k * 2 + 1, none⟩), ?_, rfl⟩
                have e27 : a.eval (.tmp 27) = .pointer (some ⟨b2, off' + k * 2, none⟩) := (c.new 8 27 (by kernel_rfl) (by kernel_rfl))
                generalize a.eval = ρ at e27 ⊢
                simp [execOp, e27, go_sem]
              · refine op_value fun a w c => ⟨(wanted_yes rfl (by kernel_rfl) (c.new 3 22 (by kernel_rfl) (by kernel_rfl))), .int .i64 ck, ?_, rfl⟩
                have e28 : a.eval (.tmp 28) = .pointer (some ⟨b2, off' + k * 2 + 1, none⟩) := (c.new 9 28 (by kernel_rfl) (by kernel_rfl))
                have hc := (c.ev.cell (p := ⟨_, _, none⟩) hb2).trans d1
                generalize a.eval = ρ at e28 ⊢
                simp [execOp, e28, hc, go_sem]
              · refine op_value fun a w c => ⟨(wanted_yes rfl (by kernel_rfl) (c.new 3 22 (by kernel_rfl) (by kernel_rfl))), .bool true, ?_, rfl⟩
                have e24 : a.eval (.tmp 24) = .int .i64 vk := (c.new 5 24 (by kernel_rfl) (by kernel_rfl))
                have e29 : a.eval (.tmp 29) = .int .i64 ck := (c.new 10 29 (by kernel_rfl) (by kernel_rfl))
                generalize a.eval = ρ at e24 e29 ⊢
                simp [execOp, e24, e29, go_sem, hkk]
              · refine op_value fun a w c => ⟨(wanted_plain rfl), _, run_pick_false rfl (c.new 3 22 (by kernel_rfl) (by kernel_rfl)) w, (c.new 11 30 (by kernel_rfl) (by kernel_rfl))⟩
            intro s w4 hEr hold hnew
            have f0 : s 0 = .slice (some ⟨b2, off', none⟩) m cap := hold 0 (by kernel_rfl)
            have f1 : s 1 = .slice (some ⟨b1, off, none⟩) m cap' := hold 1 (by kernel_rfl)
            have f2 : s 2 = undef := hold 2 (by kernel_rfl)
            have f3 : s 3 = undef := hold 3 (by kernel_rfl)
            have f5 : s 5 = .int .i64 (k : Int) := hold 5 (by kernel_rfl)
            have f6 : s 6 = .pointer (some ⟨g, 0, none⟩) := hold 6 (by kernel_rfl)
            have f7 : s 7 = .slice (some ⟨b1, off, none⟩) m cap' := hold 7 (by kernel_rfl)
            have f8 : s 8 = .int .i64 (m : Int) := hold 8 (by kernel_rfl)
            have f9 : s 9 = .slice (some ⟨b2, off', none⟩) m cap := hold 9 (by kernel_rfl)
            have f10 : s 10 = .int .i64 (m : Int) := hold 10 (by kernel_rfl)
            have f11 : s 11 = .bool false := hold 11 (by kernel_rfl)
            have f12 : s 12 = .slice (some ⟨b1, off, none⟩) m cap' := hold 12 (by kernel_rfl)
            have f13 : s 13 = .int .i64 (m : Int) := hold 13 (by kernel_rfl)
            have f14 : s 14 = .int .i64 (k : Int) := hold 14 (by kernel_rfl)
            have f19 : s 19 = vv vk vn vs := hnew 0 19 (by kernel_rfl)
            have f20 : s 20 = .bool true := hnew 1 20 (by kernel_rfl)
            have f21 : s 21 = .bool false := hnew 2 21 (by kernel_rfl)
            have f22 : s 22 = .bool false := hnew 3 22 (by kernel_rfl)
            have f23 : s 23 = .pointer (some ⟨g, 0, none⟩) := hnew 4 23 (by kernel_rfl)
            have f24 : s 24 = .int .i64 vk := hnew 5 24 (by kernel_rfl)
            have f25 : s 25 = .slice (some ⟨b2, off', none⟩) m cap := hnew 6 25 (by kernel_rfl)
            have f26 : s 26 = .int .i64 (k : Int) := hnew 7 26 (by kernel_rfl)
            have f27 : s 27 = .pointer (some ⟨b2, off' + k * 2, none⟩) := hnew 8 27 (by kernel_rfl)
            have f28 : s 28 = .pointer (some ⟨b2, off' + k * 2 + 1, none⟩) := hnew 9 28 (by kernel_rfl)
            have f29 : s 29 = .int .i64 ck := hnew 10 29 (by kernel_rfl)
            have f30 : s 30 = .bool true := hnew 11 30 (by kernel_rfl)
            have f31 : s 31 = .bool true := hnew 12 31 (by kernel_rfl)
            change Exit.then _ _ .normal ⟨#[s 0, s 1, s 2, s 3, s 4, s 5, s 6, s 7, s 8, s 9, s 10, s 11, s 12, s 13, s 14, s 15, s 16, s 17, s 18, s 19, s 20, s 21, s 22, s 23, s 24, s 25, s 26, s 27, s 28, s 29, s 30, s 31, s 32], _⟩ _
            simp only [f0, f1, f2, f3, f5, f6, f7, f8, f9, f10, f11, f12, f13, f14, f19, f20, f21, f22, f23, f24, f25, f26, f27, f28, f29, f30, f31]
            clear hold hnew
            go_wp2
            go_ret
            exact ⟨by rw [HF.out]; rfl, (hE.trans hE0).trans hEr⟩
      · obtain rfl : k = m := by omega
        have HF : Hid (fitsL l r = true) := Lib.hid (by
          have := HT.out
          rwa [List.take_of_length_le (by rw [HL.out]; exact Nat.le_refl _), List.take_of_length_le (by rw [HM.out]; exact Nat.le_refl _)] at this)
        go_wp2
        go_ret
        exact ⟨by rw [HF.out]; rfl, hE⟩
  · have hne : ¬ (m : Int) = (n : Int) := by omega
    have HF : Hid (fitsL l r = false) := Lib.hid (fitsL_ne (by rw [HL.out, HM.out]; omega))
    go_enter Tryz.func92, Tryz.ntmps92
    go_wp2
    go_ret
    exact ⟨by rw [HF.out]; rfl, Ev.refl _⟩
end Go.Proofs.YthpiobkghfdkkaaGreat

namespace Go.Proofs.YthpiobkghfdkkaaGreat
open Go.RowKit
set_option linter.unusedVariables false

theorem keep_num (n : Int) (w : World) :
    Calls Tryz.prog 13 #[.int .i64 n] w fun e w' => e = .returned (vv 1 n ⟨#[]⟩) ∧ Ev w w' := by
  go_enter Tryz.func13, Tryz.ntmps13
  go_wp2
  refine bodyPost_ret (ret_val rfl _ _ w.heap.size 1 n ⟨#[]⟩ rfl (heap_alloc_new w _)) rfl ?_
  exact ⟨rfl, Ev.alloc _ _⟩
theorem keep_str (s : ByteArray) (w : World) :
    Calls Tryz.prog 14 #[.string s] w fun e w' => e = .returned (vv 2 0 s) ∧ Ev w w' := by
  go_enter Tryz.func14, Tryz.ntmps14
  go_wp2
  refine bodyPost_ret (ret_val rfl _ _ w.heap.size 2 0 s rfl (heap_alloc_new w _)) rfl ?_
  exact ⟨rfl, Ev.alloc _ _⟩

/-- The row of numbers. -/
def numV (x : Int) : V := (1, x, ⟨#[]⟩)
/-- The slice holds the numbers l (int64). -/
abbrev Is := Sl 1 (fun x : Int => [.int .i64 x])

set_option maxRecDepth 100000 in
set_option maxHeartbeats 1600000 in
theorem keep_nums {A : Option Addr} {n cap : Nat} {l : List Int} (w : World) (h : Is w A n cap l) (hn : n ≤ 1000) :
    Calls Tryz.prog 10 #[.slice A n cap] w fun e w' => ∃ v, e = .returned v ∧ Vrow w' v (l.map numV) ∧ (∀ g, v.ownBlock = some g → w.heap.size ≤ g) ∧ Ev w w' := by
  have hc := h.le
  have hm := h.max
  have HN := Lib.hid h.len
  go_enter Tryz.func10, Tryz.ntmps10
  go_wp2
  go_loopw [4, 3] (fun i v wr => ∃ k : Nat, k ≤ n ∧ i = .int .i64 (k : Int) ∧ Vrow wr v ((l.take k).map numV) ∧ (∀ g, v.ownBlock = some g → w.heap.size ≤ g) ∧ Ev w wr) (fun i _ _ => n - (intOf i).toNat)
  case atStart => exact ⟨0, Nat.zero_le _, rfl, Vrow.nil_ _, (by simp [Value.ownBlock]), Ev.refl _⟩
  case round =>
    obtain ⟨k, hk, rfl, hV, hg, hE⟩ := hrel
    by_cases hlt : k < n
    · obtain ⟨x, hx⟩ := h.at hlt
      obtain ⟨b, off, rfl, hb, hcl⟩ := (h.ev hE).rd (by omega)
      have c0 := hcl k x hx 0 _ rfl
      rw [Nat.mul_one, Nat.add_zero] at c0
      have HF : Hid ((l.take (k + 1)).map numV = (l.take k).map numV ++ [numV x]) := Lib.hid (by
        obtain ⟨hk2, rfl⟩ := List.getElem?_eq_some_iff.1 hx
        rw [List.take_succ_eq_append_getElem hk2, List.map_append]
        rfl)
      have hlen : ((l.take k).map numV).length ≤ 1000 := by simp; omega
      clear hx hcl
      have HM := Lib.hid (fun w1 => keep_num x w1)
      go_wp2_with (first | ((with_reducible refine (HM.out _).mono ?_); rintro y w2 ⟨rfl, hE2⟩; have hV2 := (hV.ev hE2).ev (Ev.alloc w2 (.cells #[.int .i64 1, .int .i64 x, .string ⟨#[]⟩] 32))) | (at_builtin; refine wpList_append_vals rfl (.tmp 11) (.tmp 17) rfl Tryz.underlying23 Tryz.infoVal u3 _ rfl hV2 (some ⟨w2.heap.size, 0, none⟩) 1 1 [(1, x, ⟨#[]⟩)] rfl (Vs.made_one w2 1 x ⟨#[]⟩) (by simp only [List.length_cons, List.length_nil]; omega) ?_; intro v4 w4 hv4 hb4 hs4; obtain ⟨A4, n4, cap4, rfl⟩ := hv4.form))
      go_roundw
      case rel =>
        refine ⟨k + 1, by omega, by go_num, HF.out ▸ hv4, hs4.ge (by have := hE.size; have := hE2.size; simp; omega) hg, ((hE.trans hE2).trans (Ev.alloc _ _)).rows hg hb4⟩
      case measure => simp [intOf]; omega
    · obtain rfl : k = n := by omega
      go_wp2
      go_ret
      rw [List.take_of_length_le (by rw [HN.out]; exact Nat.le_refl _)] at hV
      exact ⟨_, rfl, hV, hg, hE⟩

end Go.Proofs.YthpiobkghfdkkaaGreat

namespace Go.Proofs.YthpiobkghfdkkaaGreat
open Go.RowKit
set_option linter.unusedVariables false

theorem Colbox.lt {g : Nat} {s : ByteArray} {k : Int} {w : World} (h : Colbox g s k w) : g < w.heap.size := (Array.getElem?_eq_some_iff.1 h.blk).1

set_option maxRecDepth 100000 in
set_option maxHeartbeats 4000000 in
theorem row_columns {A : Option Addr} {n cap : Nat} {l : List C} (w : World) (h : Cs w A n cap l) :
    Calls Tryz.prog 113 #[.slice A n cap] w fun e w' => e = .returned (.int .i64 (colsV l)) ∧ Ev w w' := by
  have hn := h.le
  have hm := h.max
  have HN := Lib.hid h.len
  have HC := Lib.hid (fun w1 => row_isCount n w1 (by omega))
  have HG : Hid (colsV l = cond (decide (1 ≤ n) && decide (n ≤ 6)) (colsFrom [] l) 23) := Lib.hid (by unfold colsV; rw [HN.out]; cases (decide (1 ≤ n) && decide (n ≤ 6)) <;> rfl)
  have hmix : Tryz.prog.follows .mixedOrders = true := by kernel_rfl
  generalize (decide (1 ≤ n) && decide (n ≤ 6)) = c at *
  cases c
  · replace HG : Hid (colsV l = 23) := HG
    go_enter Tryz.func113, Tryz.ntmps113
    go_wp2_with (first | ((with_reducible refine (HC.out _).mono ?_); rintro x w1 ⟨rfl, rfl⟩))
    go_ret
    exact ⟨by rw [HG.out]; rfl, Ev.refl _⟩
  · replace HG : Hid (colsV l = colsFrom [] l) := HG
    go_enter Tryz.func113, Tryz.ntmps113
    go_wp2_with (first | ((with_reducible refine (HC.out _).mono ?_); rintro x w1 ⟨rfl, rfl⟩))
    go_loopw [13] (fun i wr => ∃ k : Nat, k ≤ n ∧ i = .int .i64 k ∧ Hid (colsFrom [] l = colsFrom (l.take k) (l.drop k)) ∧ Ev w wr) (fun i _ => n - (intOf i).toNat)
    case atStart => exact ⟨0, Nat.zero_le _, rfl, Lib.hid rfl, Ev.refl _⟩
    case round =>
      obtain ⟨k, hk, rfl, HT, hE⟩ := hrel
      by_cases hlt : k < n
      · obtain ⟨b, off, ⟨xs, xk⟩, rfl, hb, hx, c0, c1⟩ := (h.ev hE).ccell hlt
        simp only at c0 c1
        have HF := Lib.hid (HT.out.trans (colsFrom_at hx))
        clear hx
        simp only at HF
        obtain ⟨w0, hw0⟩ : ∃ w0, w0 = wr.alloc (.cells #[.string xs, .int .i64 xk] 89) := ⟨_, rfl⟩
        have B0 : Colbox wr.heap.size xs xk w0 := hw0 ▸ Colbox.new xs xk wr
        have hE0 : Ev wr w0 := hw0 ▸ Ev.alloc wr _
        have HM := fun w1 => row_name xs w1
        generalize nameV xs = nm at *
        cases nm
        · have HM := Lib.hid HM
          replace HF : Hid (colsFrom [] l = 20) := Lib.hid (by rw [HF.out]; rfl)
          go_wp2_with (first | (rw [← hw0]; (with_reducible refine (HM.out _).mono ?_); rintro x w1 ⟨rfl, hE1⟩))
          go_ret
          exact ⟨by rw [HG.out, HF.out]; rfl, (hE.trans hE0).trans hE1⟩
        · by_cases hkk : xk = 1 ∨ xk = 2
          · have hf := HF.out
            rw [if_neg (by rcases hkk with rfl | rfl <;> simp)] at hf
            have h1 := (h.ev (hE.trans hE0)).to k hk
            have HD := fun w1 (hE1 : Ev w0 w1) => row_find xs w1 (h1.ev hE1)
            obtain ⟨fo, hfo⟩ : ∃ fo, foundAt (findC (l.take k) xs) = fo := ⟨_, rfl⟩
            obtain ⟨tk, htk⟩ : ∃ tk, (findC (l.take k) xs).isSome = tk := ⟨_, rfl⟩
            rw [hfo, htk] at HD
            rw [htk] at hf
            have HM := Lib.hid HM
            clear hfo htk h1
            rcases hkk with rfl | rfl
            · have hkc : k ≤ cap := by omega
              cases tk
              · have HF2 : Hid (colsFrom [] l = colsFrom (l.take (k + 1)) (l.drop (k + 1))) := Lib.hid (by rw [hf]; rfl)
                clear hf
                go_wp2_with (first | (rw [← hw0]; (with_reducible refine (HM.out _).mono ?_); rintro x w1 ⟨rfl, hE1⟩; have B1 := B0.ev hE1; have c0 := B1.c0; have c1 := B1.c1))
                obtain ⟨g, hg⟩ : ∃ g, g = wr.heap.size := ⟨_, rfl⟩
                rw [← hg] at B1 ⊢
                refine wp_region_slots hmix [fun v _ => v = .slice (some ⟨b, off, none⟩) n cap, fun v _ => v = .int .i64 (k : Int), fun v _ => v = .slice (some ⟨b, off, none⟩) k cap, fun v _ => v = .pointer (some ⟨g, 0, none⟩), fun v _ => v = .string xs, fun v _ => v = .tuple #[.int .i64 fo, .bool false], fun v _ => v = .tuple #[.int .i64 fo, .bool false], fun v _ => v = .int .i64 fo, fun v _ => v = .bool false, fun v _ => v = .int .i64 fo, fun v _ => v = .bool false]
                  43 rfl (by kernel_rfl) ⟨mono_eq _, mono_eq _, mono_eq _, mono_eq _, mono_eq _, mono_eq _, mono_eq _, mono_eq _, mono_eq _, mono_eq _, mono_eq _, trivial⟩ ?_ ?_
                · refine ops_cons 0 ?_ (ops_cons 1 ?_ (ops_cons 2 ?_ (ops_cons 3 ?_ (ops_cons 4 ?_ (ops_cons 5 ?_ (ops_cons 6 ?_ (ops_cons 7 ?_ (ops_cons 8 ?_ (ops_cons 9 ?_ (ops_cons 10 ?_ (ops_nil 11)))))))))))
                  · refine op_value fun a w c => ⟨(wanted_plain rfl), _, run_move _ rfl w, (c.was 0 (by kernel_rfl) rfl)⟩
                  · refine op_value fun a w c => ⟨(wanted_plain rfl), _, run_move _ rfl w, (c.was 3 (by kernel_rfl) rfl)⟩
                  · refine op_value fun a w c => ⟨(wanted_plain rfl), _, run_to_cols k rfl ((c.new 0 33 (by kernel_rfl) (by kernel_rfl)) : a.eval (.tmp 33) = .slice (some ⟨b, off, none⟩) n cap) ((c.new 1 34 (by kernel_rfl) (by kernel_rfl)) : a.eval (.tmp 34) = .int .i64 (k : Int)) hkc w, rfl⟩
                  · refine op_value fun a w c => ⟨(wanted_plain rfl), .pointer (some ⟨g, 0, none⟩), ?_, rfl⟩
                    have e4 : a.eval (.tmp 4) = .pointer (some ⟨g, 0, none⟩) := (c.was 4 (by kernel_rfl) rfl)
                    generalize a.eval = ρ at e4 ⊢
                    simp [execOp, e4, go_sem]
                  · refine op_value fun a w c => ⟨(wanted_plain rfl), .string xs, ?_, rfl⟩
                    have e36 : a.eval (.tmp 36) = .pointer (some ⟨g, 0, none⟩) := (c.new 3 36 (by kernel_rfl) (by kernel_rfl))
                    have hc := (c.ev.cell (p := ⟨_, _, none⟩) B1.lt).trans B1.c0
                    generalize a.eval = ρ at e36 ⊢
                    simp [execOp, e36, hc, go_sem]
                  · refine op_call fun a w c => ⟨(wanted_plain rfl), 128, #[.slice (some ⟨b, off, none⟩) k cap, .string xs], ?_, ?_⟩
                    · rw [run_call 128 _ _ rfl (by kernel_rfl)]
                      have e35 : a.eval (.tmp 35) = .slice (some ⟨b, off, none⟩) k cap := (c.new 2 35 (by kernel_rfl) (by kernel_rfl))
                      have e37 : a.eval (.tmp 37) = .string xs := (c.new 4 37 (by kernel_rfl) (by kernel_rfl))
                      simp [e35, e37]
                    · refine (HD w (hE1.trans c.ev)).mono ?_
                      rintro e w2 ⟨rfl, hE⟩
                      exact ⟨_, rfl, hE, rfl⟩
                  · refine op_value fun a w c => ⟨(wanted_plain rfl), _, run_move _ rfl w, (c.new 5 38 (by kernel_rfl) (by kernel_rfl))⟩
                  · refine op_value fun a w c => ⟨(wanted_plain rfl), .int .i64 fo, ?_, rfl⟩
                    have e32 : a.eval (.tmp 32) = .tuple #[.int .i64 fo, .bool false] := (c.new 6 32 (by kernel_rfl) (by kernel_rfl))
                    generalize a.eval = ρ at e32 ⊢
                    simp [execOp, e32, go_sem]
                  · refine op_value fun a w c => ⟨(wanted_plain rfl), .bool false, ?_, rfl⟩
                    have e32 : a.eval (.tmp 32) = .tuple #[.int .i64 fo, .bool false] := (c.new 6 32 (by kernel_rfl) (by kernel_rfl))
                    generalize a.eval = ρ at e32 ⊢
                    simp [execOp, e32, go_sem]
                  · refine op_value fun a w c => ⟨(wanted_plain rfl), _, run_assign _ rfl w, (c.new 7 39 (by kernel_rfl) (by kernel_rfl))⟩
                  · refine op_value fun a w c => ⟨(wanted_plain rfl), _, run_assign _ rfl w, (c.new 8 40 (by kernel_rfl) (by kernel_rfl))⟩
                intro s w4 hEr hold hnew
                have f0 : s 0 = .slice (some ⟨b, off, none⟩) n cap := hold 0 (by kernel_rfl)
                have f1 : s 1 = undef := hold 1 (by kernel_rfl)
                have f3 : s 3 = .int .i64 (k : Int) := hold 3 (by kernel_rfl)
                have f4 : s 4 = .pointer (some ⟨g, 0, none⟩) := hold 4 (by kernel_rfl)
                have f7 : s 7 = .slice (some ⟨b, off, none⟩) n cap := hold 7 (by kernel_rfl)
                have f8 : s 8 = .int .i64 (n : Int) := hold 8 (by kernel_rfl)
                have f9 : s 9 = .bool true := hold 9 (by kernel_rfl)
                have f10 : s 10 = .bool false := hold 10 (by kernel_rfl)
                have f11 : s 11 = .slice (some ⟨b, off, none⟩) n cap := hold 11 (by kernel_rfl)
                have f12 : s 12 = .int .i64 (n : Int) := hold 12 (by kernel_rfl)
                have f13 : s 13 = .int .i64 (k : Int) := hold 13 (by kernel_rfl)
                have f5 : s 5 = .int .i64 fo := hnew 9 5 (by kernel_rfl)
                have f6 : s 6 = .bool false := hnew 10 6 (by kernel_rfl)
                have f32 : s 32 = .tuple #[.int .i64 fo, .bool false] := hnew 6 32 (by kernel_rfl)
                have f33 : s 33 = .slice (some ⟨b, off, none⟩) n cap := hnew 0 33 (by kernel_rfl)
                have f34 : s 34 = .int .i64 (k : Int) := hnew 1 34 (by kernel_rfl)
                have f35 : s 35 = .slice (some ⟨b, off, none⟩) k cap := hnew 2 35 (by kernel_rfl)
                have f36 : s 36 = .pointer (some ⟨g, 0, none⟩) := hnew 3 36 (by kernel_rfl)
                have f37 : s 37 = .string xs := hnew 4 37 (by kernel_rfl)
                have f38 : s 38 = .tuple #[.int .i64 fo, .bool false] := hnew 5 38 (by kernel_rfl)
                have f39 : s 39 = .int .i64 fo := hnew 7 39 (by kernel_rfl)
                have f40 : s 40 = .bool false := hnew 8 40 (by kernel_rfl)
                change Exit.then _ _ .normal ⟨#[s 0, s 1, s 2, s 3, s 4, s 5, s 6, s 7, s 8, s 9, s 10, s 11, s 12, s 13, s 14, s 15, s 16, s 17, s 18, s 19, s 20, s 21, s 22, s 23, s 24, s 25, s 26, s 27, s 28, s 29, s 30, s 31, s 32, s 33, s 34, s 35, s 36, s 37, s 38, s 39, s 40, s 41, s 42], _⟩ _
                simp only [f0, f1, f3, f4, f7, f8, f9, f10, f11, f12, f13, f5, f6, f32, f33, f34, f35, f36, f37, f38, f39, f40]
                clear hold hnew
                generalize s 2 = u2
                generalize s 14 = u14
                generalize s 15 = u15
                generalize s 16 = u16
                generalize s 17 = u17
                generalize s 18 = u18
                generalize s 19 = u19
                generalize s 20 = u20
                generalize s 21 = u21
                generalize s 22 = u22
                generalize s 23 = u23
                generalize s 24 = u24
                generalize s 25 = u25
                generalize s 26 = u26
                generalize s 27 = u27
                generalize s 28 = u28
                generalize s 29 = u29
                generalize s 30 = u30
                generalize s 31 = u31
                generalize s 41 = u41
                generalize s 42 = u42
                go_wp2
                go_roundw
                case rel => exact ⟨k + 1, by omega, by go_num, HF2, ((hE.trans hE0).trans hE1).trans hEr⟩
                case measure => simp [intOf]; omega
              · have HF2 : Hid (colsFrom [] l = 21) := Lib.hid (by rw [hf]; rfl)
                clear hf
                go_wp2_with (first | (rw [← hw0]; (with_reducible refine (HM.out _).mono ?_); rintro x w1 ⟨rfl, hE1⟩; have B1 := B0.ev hE1; have c0 := B1.c0; have c1 := B1.c1))
                obtain ⟨g, hg⟩ : ∃ g, g = wr.heap.size := ⟨_, rfl⟩
                rw [← hg] at B1 ⊢
                refine wp_region_slots hmix [fun v _ => v = .slice (some ⟨b, off, none⟩) n cap, fun v _ => v = .int .i64 (k : Int), fun v _ => v = .slice (some ⟨b, off, none⟩) k cap, fun v _ => v = .pointer (some ⟨g, 0, none⟩), fun v _ => v = .string xs, fun v _ => v = .tuple #[.int .i64 fo, .bool true], fun v _ => v = .tuple #[.int .i64 fo, .bool true], fun v _ => v = .int .i64 fo, fun v _ => v = .bool true, fun v _ => v = .int .i64 fo, fun v _ => v = .bool true]
                  43 rfl (by kernel_rfl) ⟨mono_eq _, mono_eq _, mono_eq _, mono_eq _, mono_eq _, mono_eq _, mono_eq _, mono_eq _, mono_eq _, mono_eq _, mono_eq _, trivial⟩ ?_ ?_
                · refine ops_cons 0 ?_ (ops_cons 1 ?_ (ops_cons 2 ?_ (ops_cons 3 ?_ (ops_cons 4 ?_ (ops_cons 5 ?_ (ops_cons 6 ?_ (ops_cons 7 ?_ (ops_cons 8 ?_ (ops_cons 9 ?_ (ops_cons 10 ?_ (ops_nil 11)))))))))))
                  · refine op_value fun a w c => ⟨(wanted_plain rfl), _, run_move _ rfl w, (c.was 0 (by kernel_rfl) rfl)⟩
                  · refine op_value fun a w c => ⟨(wanted_plain rfl), _, run_move _ rfl w, (c.was 3 (by kernel_rfl) rfl)⟩
                  · refine op_value fun a w c => ⟨(wanted_plain rfl), _, run_to_cols k rfl ((c.new 0 33 (by kernel_rfl) (by kernel_rfl)) : a.eval (.tmp 33) = .slice (some ⟨b, off, none⟩) n cap) ((c.new 1 34 (by kernel_rfl) (by kernel_rfl)) : a.eval (.tmp 34) = .int .i64 (k : Int)) hkc w, rfl⟩
                  · refine op_value fun a w c => ⟨(wanted_plain rfl), .pointer (some ⟨g, 0, none⟩), ?_, rfl⟩
                    have e4 : a.eval (.tmp 4) = .pointer (some ⟨g, 0, none⟩) := (c.was 4 (by kernel_rfl) rfl)
                    generalize a.eval = ρ at e4 ⊢
                    simp [execOp, e4, go_sem]
                  · refine op_value fun a w c => ⟨(wanted_plain rfl), .string xs, ?_, rfl⟩
                    have e36 : a.eval (.tmp 36) = .pointer (some ⟨g, 0, none⟩) := (c.new 3 36 (by kernel_rfl) (by kernel_rfl))
                    have hc := (c.ev.cell (p := ⟨_, _, none⟩) B1.lt).trans B1.c0
                    generalize a.eval = ρ at e36 ⊢
                    simp [execOp, e36, hc, go_sem]
                  · refine op_call fun a w c => ⟨(wanted_plain rfl), 128, #[.slice (some ⟨b, off, none⟩) k cap, .string xs], ?_, ?_⟩
                    · rw [run_call 128 _ _ rfl (by kernel_rfl)]
                      have e35 : a.eval (.tmp 35) = .slice (some ⟨b, off, none⟩) k cap := (c.new 2 35 (by kernel_rfl) (by kernel_rfl))
                      have e37 : a.eval (.tmp 37) = .string xs := (c.new 4 37 (by kernel_rfl) (by kernel_rfl))
                      simp [e35, e37]
                    · refine (HD w (hE1.trans c.ev)).mono ?_
                      rintro e w2 ⟨rfl, hE⟩
                      exact ⟨_, rfl, hE, rfl⟩
                  · refine op_value fun a w c => ⟨(wanted_plain rfl), _, run_move _ rfl w, (c.new 5 38 (by kernel_rfl) (by kernel_rfl))⟩
                  · refine op_value fun a w c => ⟨(wanted_plain rfl), .int .i64 fo, ?_, rfl⟩
                    have e32 : a.eval (.tmp 32) = .tuple #[.int .i64 fo, .bool true] := (c.new 6 32 (by kernel_rfl) (by kernel_rfl))
                    generalize a.eval = ρ at e32 ⊢
                    simp [execOp, e32, go_sem]
                  · refine op_value fun a w c => ⟨(wanted_plain rfl), .bool true, ?_, rfl⟩
                    have e32 : a.eval (.tmp 32) = .tuple #[.int .i64 fo, .bool true] := (c.new 6 32 (by kernel_rfl) (by kernel_rfl))
                    generalize a.eval = ρ at e32 ⊢
                    simp [execOp, e32, go_sem]
                  · refine op_value fun a w c => ⟨(wanted_plain rfl), _, run_assign _ rfl w, (c.new 7 39 (by kernel_rfl) (by kernel_rfl))⟩
                  · refine op_value fun a w c => ⟨(wanted_plain rfl), _, run_assign _ rfl w, (c.new 8 40 (by kernel_rfl) (by kernel_rfl))⟩
                intro s w4 hEr hold hnew
                have f0 : s 0 = .slice (some ⟨b, off, none⟩) n cap := hold 0 (by kernel_rfl)
                have f1 : s 1 = undef := hold 1 (by kernel_rfl)
                have f3 : s 3 = .int .i64 (k : Int) := hold 3 (by kernel_rfl)
                have f4 : s 4 = .pointer (some ⟨g, 0, none⟩) := hold 4 (by kernel_rfl)
                have f7 : s 7 = .slice (some ⟨b, off, none⟩) n cap := hold 7 (by kernel_rfl)
                have f8 : s 8 = .int .i64 (n : Int) := hold 8 (by kernel_rfl)
                have f9 : s 9 = .bool true := hold 9 (by kernel_rfl)
                have f10 : s 10 = .bool false := hold 10 (by kernel_rfl)
                have f11 : s 11 = .slice (some ⟨b, off, none⟩) n cap := hold 11 (by kernel_rfl)
                have f12 : s 12 = .int .i64 (n : Int) := hold 12 (by kernel_rfl)
                have f13 : s 13 = .int .i64 (k : Int) := hold 13 (by kernel_rfl)
                have f5 : s 5 = .int .i64 fo := hnew 9 5 (by kernel_rfl)
                have f6 : s 6 = .bool true := hnew 10 6 (by kernel_rfl)
                have f32 : s 32 = .tuple #[.int .i64 fo, .bool true] := hnew 6 32 (by kernel_rfl)
                have f33 : s 33 = .slice (some ⟨b, off, none⟩) n cap := hnew 0 33 (by kernel_rfl)
                have f34 : s 34 = .int .i64 (k : Int) := hnew 1 34 (by kernel_rfl)
                have f35 : s 35 = .slice (some ⟨b, off, none⟩) k cap := hnew 2 35 (by kernel_rfl)
                have f36 : s 36 = .pointer (some ⟨g, 0, none⟩) := hnew 3 36 (by kernel_rfl)
                have f37 : s 37 = .string xs := hnew 4 37 (by kernel_rfl)
                have f38 : s 38 = .tuple #[.int .i64 fo, .bool true] := hnew 5 38 (by kernel_rfl)
                have f39 : s 39 = .int .i64 fo := hnew 7 39 (by kernel_rfl)
                have f40 : s 40 = .bool true := hnew 8 40 (by kernel_rfl)
                change Exit.then _ _ .normal ⟨#[s 0, s 1, s 2, s 3, s 4, s 5, s 6, s 7, s 8, s 9, s 10, s 11, s 12, s 13, s 14, s 15, s 16, s 17, s 18, s 19, s 20, s 21, s 22, s 23, s 24, s 25, s 26, s 27, s 28, s 29, s 30, s 31, s 32, s 33, s 34, s 35, s 36, s 37, s 38, s 39, s 40, s 41, s 42], _⟩ _
                simp only [f0, f1, f3, f4, f7, f8, f9, f10, f11, f12, f13, f5, f6, f32, f33, f34, f35, f36, f37, f38, f39, f40]
                clear hold hnew
                go_wp2
                go_ret
                exact ⟨by rw [HG.out, HF2.out]; rfl, ((hE.trans hE0).trans hE1).trans hEr⟩
            · have hkc : k ≤ cap := by omega
              cases tk
              · have HF2 : Hid (colsFrom [] l = colsFrom (l.take (k + 1)) (l.drop (k + 1))) := Lib.hid (by rw [hf]; rfl)
                clear hf
                go_wp2_with (first | (rw [← hw0]; (with_reducible refine (HM.out _).mono ?_); rintro x w1 ⟨rfl, hE1⟩; have B1 := B0.ev hE1; have c0 := B1.c0; have c1 := B1.c1))
                obtain ⟨g, hg⟩ : ∃ g, g = wr.heap.size := ⟨_, rfl⟩
                rw [← hg] at B1 ⊢
                refine wp_region_slots hmix [fun v _ => v = .slice (some ⟨b, off, none⟩) n cap, fun v _ => v = .int .i64 (k : Int), fun v _ => v = .slice (some ⟨b, off, none⟩) k cap, fun v _ => v = .pointer (some ⟨g, 0, none⟩), fun v _ => v = .string xs, fun v _ => v = .tuple #[.int .i64 fo, .bool false], fun v _ => v = .tuple #[.int .i64 fo, .bool false], fun v _ => v = .int .i64 fo, fun v _ => v = .bool false, fun v _ => v = .int .i64 fo, fun v _ => v = .bool false]
                  43 rfl (by kernel_rfl) ⟨mono_eq _, mono_eq _, mono_eq _, mono_eq _, mono_eq _, mono_eq _, mono_eq _, mono_eq _, mono_eq _, mono_eq _, mono_eq _, trivial⟩ ?_ ?_
                · refine ops_cons 0 ?_ (ops_cons 1 ?_ (ops_cons 2 ?_ (ops_cons 3 ?_ (ops_cons 4 ?_ (ops_cons 5 ?_ (ops_cons 6 ?_ (ops_cons 7 ?_ (ops_cons 8 ?_ (ops_cons 9 ?_ (ops_cons 10 ?_ (ops_nil 11)))))))))))
                  · refine op_value fun a w c => ⟨(wanted_plain rfl), _, run_move _ rfl w, (c.was 0 (by kernel_rfl) rfl)⟩
                  · refine op_value fun a w c => ⟨(wanted_plain rfl), _, run_move _ rfl w, (c.was 3 (by kernel_rfl) rfl)⟩
                  · refine op_value fun a w c => ⟨(wanted_plain rfl), _, run_to_cols k rfl ((c.new 0 33 (by kernel_rfl) (by kernel_rfl)) : a.eval (.tmp 33) = .slice (some ⟨b, off, none⟩) n cap) ((c.new 1 34 (by kernel_rfl) (by kernel_rfl)) : a.eval (.tmp 34) = .int .i64 (k : Int)) hkc w, rfl⟩
                  · refine op_value fun a w c => ⟨(wanted_plain rfl), .pointer (some ⟨g, 0, none⟩), ?_, rfl⟩
                    have e4 : a.eval (.tmp 4) = .pointer (some ⟨g, 0, none⟩) := (c.was 4 (by kernel_rfl) rfl)
                    generalize a.eval = ρ at e4 ⊢
                    simp [execOp, e4, go_sem]
                  · refine op_value fun a w c => ⟨(wanted_plain rfl), .string xs, ?_, rfl⟩
                    have e36 : a.eval (.tmp 36) = .pointer (some ⟨g, 0, none⟩) := (c.new 3 36 (by kernel_rfl) (by kernel_rfl))
                    have hc := (c.ev.cell (p := ⟨_, _, none⟩) B1.lt).trans B1.c0
                    generalize a.eval = ρ at e36 ⊢
                    simp [execOp, e36, hc, go_sem]
                  · refine op_call fun a w c => ⟨(wanted_plain rfl), 128, #[.slice (some ⟨b, off, none⟩) k cap, .string xs], ?_, ?_⟩
                    · rw [run_call 128 _ _ rfl (by kernel_rfl)]
                      have e35 : a.eval (.tmp 35) = .slice (some ⟨b, off, none⟩) k cap := (c.new 2 35 (by kernel_rfl) (by kernel_rfl))
                      have e37 : a.eval (.tmp 37) = .string xs := (c.new 4 37 (by kernel_rfl) (by kernel_rfl))
                      simp [e35, e37]
                    · refine (HD w (hE1.trans c.ev)).mono ?_
                      rintro e w2 ⟨rfl, hE⟩
                      exact ⟨_, rfl, hE, rfl⟩
                  · refine op_value fun a w c => ⟨(wanted_plain rfl), _, run_move _ rfl w, (c.new 5 38 (by kernel_rfl) (by kernel_rfl))⟩
                  · refine op_value fun a w c => ⟨(wanted_plain rfl), .int .i64 fo, ?_, rfl⟩
                    have e32 : a.eval (.tmp 32) = .tuple #[.int .i64 fo, .bool false] := (c.new 6 32 (by kernel_rfl) (by kernel_rfl))
                    generalize a.eval = ρ at e32 ⊢
                    simp [execOp, e32, go_sem]
                  · refine op_value fun a w c => ⟨(wanted_plain rfl), .bool false, ?_, rfl⟩
                    have e32 : a.eval (.tmp 32) = .tuple #[.int .i64 fo, .bool false] := (c.new 6 32 (by kernel_rfl) (by kernel_rfl))
                    generalize a.eval = ρ at e32 ⊢
                    simp [execOp, e32, go_sem]
                  · refine op_value fun a w c => ⟨(wanted_plain rfl), _, run_assign _ rfl w, (c.new 7 39 (by kernel_rfl) (by kernel_rfl))⟩
                  · refine op_value fun a w c => ⟨(wanted_plain rfl), _, run_assign _ rfl w, (c.new 8 40 (by kernel_rfl) (by kernel_rfl))⟩
                intro s w4 hEr hold hnew
                have f0 : s 0 = .slice (some ⟨b, off, none⟩) n cap := hold 0 (by kernel_rfl)
                have f1 : s 1 = undef := hold 1 (by kernel_rfl)
                have f3 : s 3 = .int .i64 (k : Int) := hold 3 (by kernel_rfl)
                have f4 : s 4 = .pointer (some ⟨g, 0, none⟩) := hold 4 (by kernel_rfl)
                have f7 : s 7 = .slice (some ⟨b, off, none⟩) n cap := hold 7 (by kernel_rfl)
                have f8 : s 8 = .int .i64 (n : Int) := hold 8 (by kernel_rfl)
                have f9 : s 9 = .bool true := hold 9 (by kernel_rfl)
                have f10 : s 10 = .bool false := hold 10 (by kernel_rfl)
                have f11 : s 11 = .slice (some ⟨b, off, none⟩) n cap := hold 11 (by kernel_rfl)
                have f12 : s 12 = .int .i64 (n : Int) := hold 12 (by kernel_rfl)
                have f13 : s 13 = .int .i64 (k : Int) := hold 13 (by kernel_rfl)
                have f5 : s 5 = .int .i64 fo := hnew 9 5 (by kernel_rfl)
                have f6 : s 6 = .bool false := hnew 10 6 (by kernel_rfl)
                have f32 : s 32 = .tuple #[.int .i64 fo, .bool false] := hnew 6 32 (by kernel_rfl)
                have f33 : s 33 = .slice (some ⟨b, off, none⟩) n cap := hnew 0 33 (by kernel_rfl)
                have f34 : s 34 = .int .i64 (k : Int) := hnew 1 34 (by kernel_rfl)
                have f35 : s 35 = .slice (some ⟨b, off, none⟩) k cap := hnew 2 35 (by kernel_rfl)
                have f36 : s 36 = .pointer (some ⟨g, 0, none⟩) := hnew 3 36 (by kernel_rfl)
                have f37 : s 37 = .string xs := hnew 4 37 (by kernel_rfl)
                have f38 : s 38 = .tuple #[.int .i64 fo, .bool false] := hnew 5 38 (by kernel_rfl)
                have f39 : s 39 = .int .i64 fo := hnew 7 39 (by kernel_rfl)
                have f40 : s 40 = .bool false := hnew 8 40 (by kernel_rfl)
                change Exit.then _ _ .normal ⟨#[s 0, s 1, s 2, s 3, s 4, s 5, s 6, s 7, s 8, s 9, s 10, s 11, s 12, s 13, s 14, s 15, s 16, s 17, s 18, s 19, s 20, s 21, s 22, s 23, s 24, s 25, s 26, s 27, s 28, s 29, s 30, s 31, s 32, s 33, s 34, s 35, s 36, s 37, s 38, s 39, s 40, s 41, s 42], _⟩ _
                simp only [f0, f1, f3, f4, f7, f8, f9, f10, f11, f12, f13, f5, f6, f32, f33, f34, f35, f36, f37, f38, f39, f40]
                clear hold hnew
                generalize s 2 = u2
                generalize s 14 = u14
                generalize s 15 = u15
                generalize s 16 = u16
                generalize s 17 = u17
                generalize s 18 = u18
                generalize s 19 = u19
                generalize s 20 = u20
                generalize s 21 = u21
                generalize s 22 = u22
                generalize s 23 = u23
                generalize s 24 = u24
                generalize s 25 = u25
                generalize s 26 = u26
                generalize s 27 = u27
                generalize s 28 = u28
                generalize s 29 = u29
                generalize s 30 = u30
                generalize s 31 = u31
                generalize s 41 = u41
                generalize s 42 = u42
                go_wp2
                go_roundw
                case rel => exact ⟨k + 1, by omega, by go_num, HF2, ((hE.trans hE0).trans hE1).trans hEr⟩
                case measure => simp [intOf]; omega
              · have HF2 : Hid (colsFrom [] l = 21) := Lib.hid (by rw [hf]; rfl)
                clear hf
                go_wp2_with (first | (rw [← hw0]; (with_reducible refine (HM.out _).mono ?_); rintro x w1 ⟨rfl, hE1⟩; have B1 := B0.ev hE1; have c0 := B1.c0; have c1 := B1.c1))
                obtain ⟨g, hg⟩ : ∃ g, g = wr.heap.size := ⟨_, rfl⟩
                rw [← hg] at B1 ⊢
                refine wp_region_slots hmix [fun v _ => v = .slice (some ⟨b, off, none⟩) n cap, fun v _ => v = .int .i64 (k : Int), fun v _ => v = .slice (some ⟨b, off, none⟩) k cap, fun v _ => v = .pointer (some ⟨g, 0, none⟩), fun v _ => v = .string xs, fun v _ => v = .tuple #[.int .i64 fo, .bool true], fun v _ => v = .tuple #[.int .i64 fo, .bool true], fun v _ => v = .int .i64 fo, fun v _ => v = .bool true, fun v _ => v = .int .i64 fo, fun v _ => v = .bool true]
                  43 rfl (by kernel_rfl) ⟨mono_eq _, mono_eq _, mono_eq _, mono_eq _, mono_eq _, mono_eq _, mono_eq _, mono_eq _, mono_eq _, mono_eq _, mono_eq _, trivial⟩ ?_ ?_
                · refine ops_cons 0 ?_ (ops_cons 1 ?_ (ops_cons 2 ?_ (ops_cons 3 ?_ (ops_cons 4 ?_ (ops_cons 5 ?_ (ops_cons 6 ?_ (ops_cons 7 ?_ (ops_cons 8 ?_ (ops_cons 9 ?_ (ops_cons 10 ?_ (ops_nil 11)))))))))))
                  · refine op_value fun a w c => ⟨(wanted_plain rfl), _, run_move _ rfl w, (c.was 0 (by kernel_rfl) rfl)⟩
                  · refine op_value fun a w c => ⟨(wanted_plain rfl), _, run_move _ rfl w, (c.was 3 (by kernel_rfl) rfl)⟩
                  · refine op_value fun a w c => ⟨(wanted_plain rfl), _, run_to_cols k rfl ((c.new 0 33 (by kernel_rfl) (by kernel_rfl)) : a.eval (.tmp 33) = .slice (some ⟨b, off, none⟩) n cap) ((c.new 1 34 (by kernel_rfl) (by kernel_rfl)) : a.eval (.tmp 34) = .int .i64 (k : Int)) hkc w, rfl⟩
                  · refine op_value fun a w c => ⟨(wanted_plain rfl), .pointer (some ⟨g, 0, none⟩), ?_, rfl⟩
                    have e4 : a.eval (.tmp 4) = .pointer (some ⟨g, 0, none⟩) := (c.was 4 (by kernel_rfl) rfl)
                    generalize a.eval = ρ at e4 ⊢
                    simp [execOp, e4, go_sem]
                  · refine op_value fun a w c => ⟨(wanted_plain rfl), .string xs, ?_, rfl⟩
                    have e36 : a.eval (.tmp 36) = .pointer (some ⟨g, 0, none⟩) := (c.new 3 36 (by kernel_rfl) (by kernel_rfl))
                    have hc := (c.ev.cell (p := ⟨_, _, none⟩) B1.lt).trans B1.c0
                    generalize a.eval = ρ at e36 ⊢
                    simp [execOp, e36, hc, go_sem]
                  · refine op_call fun a w c => ⟨(wanted_plain rfl), 128, #[.slice (some ⟨b, off, none⟩) k cap, .string xs], ?_, ?_⟩
                    · rw [run_call 128 _ _ rfl (by kernel_rfl)]
                      have e35 : a.eval (.tmp 35) = .slice (some ⟨b, off, none⟩) k cap := (c.new 2 35 (by kernel_rfl) (by kernel_rfl))
                      have e37 : a.eval (.tmp 37) = .string xs := (c.new 4 37 (by kernel_rfl) (by kernel_rfl))
                      simp [e35, e37]
                    · refine (HD w (hE1.trans c.ev)).mono ?_
                      rintro e w2 ⟨rfl, hE⟩
                      exact ⟨_, rfl, hE, rfl⟩
                  · refine op_value fun a w c => ⟨(wanted_plain rfl), _, run_move _ rfl w, (c.new 5 38 (by kernel_rfl) (by kernel_rfl))⟩
                  · refine op_value fun a w c => ⟨(wanted_plain rfl), .int .i64 fo, ?_, rfl⟩
                    have e32 : a.eval (.tmp 32) = .tuple #[.int .i64 fo, .bool true] := (c.new 6 32 (by kernel_rfl) (by kernel_rfl))
                    generalize a.eval = ρ at e32 ⊢
                    simp [execOp, e32, go_sem]
                  · refine op_value fun a w c => ⟨(wanted_plain rfl), .bool true, ?_, rfl⟩
                    have e32 : a.eval (.tmp 32) = .tuple #[.int .i64 fo, .bool true] := (c.new 6 32 (by kernel_rfl) (by kernel_rfl))
                    generalize a.eval = ρ at e32 ⊢
                    simp [execOp, e32, go_sem]
                  · refine op_value fun a w c => ⟨(wanted_plain rfl), _, run_assign _ rfl w, (c.new 7 39 (by kernel_rfl) (by kernel_rfl))⟩
                  · refine op_value fun a w c => ⟨(wanted_plain rfl), _, run_assign _ rfl w, (c.new 8 40 (by kernel_rfl) (by kernel_rfl))⟩
                intro s w4 hEr hold hnew
                have f0 : s 0 = .slice (some ⟨b, off, none⟩) n cap := hold 0 (by kernel_rfl)
                have f1 : s 1 = undef := hold 1 (by kernel_rfl)
                have f3 : s 3 = .int .i64 (k : Int) := hold 3 (by kernel_rfl)
                have f4 : s 4 = .pointer (some ⟨g, 0, none⟩) := hold 4 (by kernel_rfl)
                have f7 : s 7 = .slice (some ⟨b, off, none⟩) n cap := hold 7 (by kernel_rfl)
                have f8 : s 8 = .int .i64 (n : Int) := hold 8 (by kernel_rfl)
                have f9 : s 9 = .bool true := hold 9 (by kernel_rfl)
                have f10 : s 10 = .bool false := hold 10 (by kernel_rfl)
                have f11 : s 11 = .slice (some ⟨b, off, none⟩) n cap := hold 11 (by kernel_rfl)
                have f12 : s 12 = .int .i64 (n : Int) := hold 12 (by kernel_rfl)
                have f13 : s 13 = .int .i64 (k : Int) := hold 13 (by kernel_rfl)
                have f5 : s 5 = .int .i64 fo := hnew 9 5 (by kernel_rfl)
                have f6 : s 6 = .bool true := hnew 10 6 (by kernel_rfl)
                have f32 : s 32 = .tuple #[.int .i64 fo, .bool true] := hnew 6 32 (by kernel_rfl)
                have f33 : s 33 = .slice (some ⟨b, off, none⟩) n cap := hnew 0 33 (by kernel_rfl)
                have f34 : s 34 = .int .i64 (k : Int) := hnew 1 34 (by kernel_rfl)
                have f35 : s 35 = .slice (some ⟨b, off, none⟩) k cap := hnew 2 35 (by kernel_rfl)
                have f36 : s 36 = .pointer (some ⟨g, 0, none⟩) := hnew 3 36 (by kernel_rfl)
                have f37 : s 37 = .string xs := hnew 4 37 (by kernel_rfl)
                have f38 : s 38 = .tuple #[.int .i64 fo, .bool true] := hnew 5 38 (by kernel_rfl)
                have f39 : s 39 = .int .i64 fo := hnew 7 39 (by kernel_rfl)
                have f40 : s 40 = .bool true := hnew 8 40 (by kernel_rfl)
                change Exit.then _ _ .normal ⟨#[s 0, s 1, s 2, s 3, s 4, s 5, s 6, s 7, s 8, s 9, s 10, s 11, s 12, s 13, s 14, s 15, s 16, s 17, s 18, s 19, s 20, s 21, s 22, s 23, s 24, s 25, s 26, s 27, s 28, s 29, s 30, s 31, s 32, s 33, s 34, s 35, s 36, s 37, s 38, s 39, s 40, s 41, s 42], _⟩ _
                simp only [f0, f1, f3, f4, f7, f8, f9, f10, f11, f12, f13, f5, f6, f32, f33, f34, f35, f36, f37, f38, f39, f40]
                clear hold hnew
                go_wp2
                go_ret
                exact ⟨by rw [HG.out, HF2.out]; rfl, ((hE.trans hE0).trans hE1).trans hEr⟩
          · have n1 : xk ≠ 1 := fun e => hkk (.inl e)
            have n2 : xk ≠ 2 := fun e => hkk (.inr e)
            have m1 : (xk != 1) = true := bne_iff_ne.2 n1
            have m2 : (xk != 2) = true := bne_iff_ne.2 n2
            have HM := Lib.hid HM
            replace HF : Hid (colsFrom [] l = 20) := Lib.hid (by rw [HF.out, if_pos (by simp [n1, n2])])
            go_wp2_with (first | (rw [← hw0]; (with_reducible refine (HM.out _).mono ?_); rintro x w1 ⟨rfl, hE1⟩; have c1 := (B0.ev hE1).c1))
            go_ret
            exact ⟨by rw [HG.out, HF.out]; rfl, (hE.trans hE0).trans hE1⟩
      · obtain rfl : k = n := by omega
        have HF : Hid (colsFrom [] l = 0) := Lib.hid (by rw [HT.out, List.drop_eq_nil_of_le (by rw [HN.out]; exact Nat.le_refl _)]; rfl)
        go_wp2
        go_ret
        exact ⟨by rw [HG.out, HF.out]; rfl, hE⟩
end Go.Proofs.YthpiobkghfdkkaaGreat

namespace Go.Proofs.YthpiobkghfdkkaaGreat
open Go.RowKit
set_option linter.unusedVariables false

theorem Is.made (l : List Int) (n : Nat) (hn : l.length = n) (hm : n ≤ 1000) (w : World) (cs : Array Value) (hc : cs = (l.map fun x => Value.int .i64 x).toArray) : Is (w.alloc (.cells cs 2)) (some ⟨w.heap.size, 0, none⟩) n n l :=
  ⟨hn, Nat.le_refl _, by omega, by simp, fun _ => ⟨w.heap.size, 0, rfl, by simp, fun i x hx j u hu => by
    have hi := (List.getElem?_eq_some_iff.1 hx).1
    have hj : j = 0 := by have := (List.getElem?_eq_some_iff.1 hu).1; simp at this; omega
    subst hj
    rw [Lib.cell_of_heap (heap_alloc_new w _), hc, List.getElem?_toArray, List.getElem?_map]
    rw [Nat.mul_one, Nat.zero_add, Nat.add_zero, hx]
    simpa using hu⟩⟩
/-- A literal's numbers as a row. -/
theorem nums_lit (l : List Int) (n : Nat) (hn : l.length = n) (hm : n ≤ 1000) (w : World) (cs : Array Value) (hc : cs = (l.map fun x => Value.int .i64 x).toArray) :
    Calls Tryz.prog 10 #[.slice (some ⟨w.heap.size, 0, none⟩) n n] (w.alloc (.cells cs 2)) fun e w' => ∃ A m cap, e = .returned (.slice A m cap) ∧ Vs w' A m cap (l.map numV) ∧ Ev w w' :=
  (keep_nums _ (Is.made l n hn hm w cs hc) hm).mono fun e w' ⟨v, he, hv, _, hE⟩ => by
    obtain ⟨A, cap, rfl, hvs, _⟩ := hv.vs
    exact ⟨A, _, cap, he, hvs, (Ev.alloc _ _).trans hE⟩

end Go.Proofs.YthpiobkghfdkkaaGreat

namespace Go.Proofs.YthpiobkghfdkkaaGreat
open Go.RowKit
set_option linter.unusedVariables false

end Go.Proofs.YthpiobkghfdkkaaGreat

namespace Go.Proofs.YthpiobkghfdkkaaGreat
open Go.RowKit
set_option linter.unusedVariables false

end Go.Proofs.YthpiobkghfdkkaaGreat

namespace Go.Proofs.YthpiobkghfdkkaaGreat
open Go.RowKit
set_option linter.unusedVariables false

theorem flat_get {α : Type} {k : Nat} {enc : α → List Value} (hk : ∀ x, (enc x).length = k) : ∀ (l : List α) (i : Nat) (x : α), l[i]? = some x → ∀ j u, (enc x)[j]? = some u → (l.flatMap enc)[i * k + j]? = some u
  | [], _, _, h, _, _, _ => by simp at h
  | y :: l, 0, x, h, j, u, hu => by
    simp at h
    subst h
    have hj : j < (enc y).length := (List.getElem?_eq_some_iff.1 hu).1
    rw [List.flatMap_cons, Nat.zero_mul, Nat.zero_add, List.getElem?_append_left hj]
    exact hu
  | y :: l, i + 1, x, h, j, u, hu => by
    have e : (i + 1) * k + j - k = i * k + j := by rw [Nat.add_mul, Nat.one_mul]; omega
    rw [List.flatMap_cons, List.getElem?_append_right (by rw [hk, Nat.add_mul]; omega), hk, e]
    exact flat_get hk l i x (by simpa using h) j u hu
/-- A literal slice of structs. -/
theorem Sl.made {α : Type} {k : Nat} {enc : α → List Value} (hk : ∀ x, (enc x).length = k) (l : List α) (n : Nat) (hn : l.length = n) (hm : n ≤ 1000) (w : World) (cs : Array Value) (T : TypeId) (hc : cs = (l.flatMap enc).toArray) :
    Sl k enc (w.alloc (.cells cs T)) (some ⟨w.heap.size, 0, none⟩) n n l :=
  ⟨hn, Nat.le_refl _, by omega, by simp, fun _ => ⟨w.heap.size, 0, rfl, by simp, fun i x hx j u hu => by
    rw [Lib.cell_of_heap (heap_alloc_new w _), hc, List.getElem?_toArray, Nat.zero_add]
    exact flat_get hk l i x hx j u hu⟩⟩
theorem Cs.made (l : List C) (n : Nat) (hn : l.length = n) (hm : n ≤ 1000) (w : World) (cs : Array Value) (hc : cs = (l.flatMap ccells).toArray) : Cs (w.alloc (.cells cs 89)) (some ⟨w.heap.size, 0, none⟩) n n l := Sl.made (enc := ccells) (fun _ => rfl) l n hn hm w cs _ hc
theorem Vs.made (l : List V) (n : Nat) (hn : l.length = n) (hm : n ≤ 1000) (w : World) (cs : Array Value) (hc : cs = (l.flatMap vcells).toArray) : Vs (w.alloc (.cells cs 32)) (some ⟨w.heap.size, 0, none⟩) n n l := Sl.made (enc := vcells) (fun _ => rfl) l n hn hm w cs _ hc

def tcols : List C := [(⟨#[97]⟩, 1), (⟨#[98]⟩, 1), (⟨#[115]⟩, 2)]
theorem keep_t (w : World) : Calls Tryz.prog 26 #[] w fun e w' => e = .returned (.slice (some ⟨w.heap.size, 0, none⟩) 3 3) ∧ Cs w' (some ⟨w.heap.size, 0, none⟩) 3 3 tcols ∧ Ev w w' := by
  go_enter Tryz.func26, Tryz.ntmps26
  go_wp2
  go_ret
  exact ⟨rfl, Cs.made tcols 3 rfl (by decide) w _ rfl, Ev.alloc _ _⟩

end Go.Proofs.YthpiobkghfdkkaaGreat
