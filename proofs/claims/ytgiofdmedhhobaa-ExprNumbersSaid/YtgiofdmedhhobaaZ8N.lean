/-
  Texts that belong together: The contracts of package row: Columns, Fits, Less. The book of memory: numbers, texts and rows of the laws' own; two rows held against one another. The contract of row.Columns. Chapter 5's runs ('known'). The document's own Columns (chapter 5). What the walks of stage 5's laws share: a Writer and a Reader in new memory; what is put is got. The walk of RowNumbers.
-/
import Derived.Deep.Cut
import Derived.Test.YtgiofdmedhhobaaZ6N
import Derived.Test.YtgiofdmedhhobaaZ5N
import Derived.Test.YtgiofdmedhhobaaZ4N
namespace Go.Proofs.Ytgiofdmedhhobaa
open Go.RowKit
set_option linter.unusedVariables false

theorem run_to_cols {ρ : Operand → Value} {o : Oper} {x : Operand} {A : Option Addr} {n cap : Nat} (k : Nat) {c : Operand} (ho : o.op = .slice 22 x none (some c) none) (h : ρ x = .slice A n cap) (hc : ρ c = .int .i64 (k : Int)) (hk : k ≤ cap) (w : World) :
    (execOp ρ o).run Try.prog w = .ok (.value (.slice A k cap)) w := by
  have h1 : (k : Int) ≤ (cap : Int) := by omega
  have h2 : (0 : Int) ≤ (k : Int) := by omega
  have ht : Try.prog.underlying 22 = some (.slice (Try.prog.elem 22)) := by kernel_rfl
  have hs : (sizeOf (Try.prog.elem 22)).run Try.prog w = .ok 2 w := by kernel_rfl
  unfold execOp
  rw [ho]
  simp [h, hc, run_sliceAt_slice w 22 _ _ _ _ ht, run_slice_h w 22 A n cap ht .i64 (k : Int) h2 h1, hs, Result.andThen, sliced, Addr.add]
/-- A column in its own box. -/
structure Colbox (g : Nat) (s : ByteArray) (k : Int) (w : World) : Prop where
  blk : w.heap[g]? = some (.cells #[.string s, .int .i64 k] 64 (0, 0))
theorem Colbox.c0 {g : Nat} {s : ByteArray} {k : Int} {w : World} (h : Colbox g s k w) : w.cell? ⟨g, 0, none⟩ = some (.string s) := by rw [Lib.cell_of_heap h.blk]; rfl
theorem Colbox.c1 {g : Nat} {s : ByteArray} {k : Int} {w : World} (h : Colbox g s k w) : w.cell? ⟨g, 1, none⟩ = some (.int .i64 k) := by rw [Lib.cell_of_heap h.blk]; rfl
theorem Colbox.ev {g : Nat} {s : ByteArray} {k : Int} {w w' : World} (h : Colbox g s k w) (he : Ev w w') : Colbox g s k w' :=
  ⟨by rw [he.block g (Array.getElem?_eq_some_iff.1 h.blk).1]; exact h.blk⟩
theorem Colbox.new (s : ByteArray) (k : Int) (w : World) : Colbox w.heap.size s k (w.alloc (.cells #[.string s, .int .i64 k] 64)) := ⟨heap_alloc_new w _⟩

set_option maxRecDepth 100000 in
set_option maxHeartbeats 4000000 in
theorem row_fits {A B : Option Addr} {n m cap cap' : Nat} {l : List C} {r : List V} (w : World) (h : Cs w A n cap l) (h' : Vs w B m cap' r) :
    Calls Try.prog 34 #[.slice A n cap, .slice B m cap'] w fun e w' => e = .returned (.bool (fitsL l r)) ∧ Ev w w' := by
  have hn := h.le
  have hm := h.max
  have hn' := h'.le
  have hm' := h'.max
  have HL := Lib.hid h.len
  have HM := Lib.hid h'.len
  have hmix : Try.prog.follows .mixedOrders = true := by kernel_rfl
  by_cases hnm : m = n
  · subst hnm
    go_enter Try.func34, Try.ntmps34
    go_wp2
    go_loopw [14] (fun i wr => ∃ k : Nat, k ≤ m ∧ i = .int .i64 k ∧ Hid (fitsL (l.take k) (r.take k) = true) ∧ Ev w wr) (fun i _ => m - (intOf i).toNat)
    case atStart => exact ⟨0, Nat.zero_le _, rfl, Lib.hid (by simp [fitsL]), Ev.refl _⟩
    case round =>
      obtain ⟨k, hk, rfl, HT, hE⟩ := hrel
      by_cases hlt : k < m
      · obtain ⟨b2, off', ⟨xs, ck⟩, rfl, hb2, hy, d0, d1⟩ := (h.ev hE).ccell hlt
        obtain ⟨b1, off, ⟨vk, vn, vs⟩, rfl, hb1, hx, c0, c1, c2⟩ := (h'.ev hE).vcell hlt
        simp only at c0 c1 c2 d0 d1
        have i1 : (0 : Int) ≤ (k : Int) := by omega
        have i2 : (k : Int) < (m : Int) := by omega
        have HX := Lib.hid hx
        have HY := Lib.hid hy
        obtain ⟨w0, hw0⟩ : ∃ w0, w0 = wr.alloc (.cells #[.int .i64 vk, .int .i64 vn, .string vs] 25) := ⟨_, rfl⟩
        have B0 : Boxed wr.heap.size vk vn vs w0 := hw0 ▸ Boxed.new vk vn vs wr
        have hE0 : Ev wr w0 := hw0 ▸ Ev.alloc wr _
        replace d1 := (hE0.cell (p := ⟨b2, off' + k * 2 + 1, none⟩) hb2).trans d1
        replace hb2 : b2 < w0.heap.size := Nat.lt_of_lt_of_le hb2 hE0.size
        have HV := fun w1 => value_right vk vn vs w1
        obtain ⟨rr, hrr⟩ : ∃ rr, rightV vk vn vs = rr := ⟨_, rfl⟩
        rw [hrr] at HV
        clear hx hy h h'
        cases rr
        · have HF : Hid (fitsL l r = false) := Lib.hid (fitsL_not k l r _ _ HY.out HX.out (.inl hrr))
          clear hrr
          go_wp2_with fail
          rw [← hw0]
          obtain ⟨g, hg⟩ : ∃ g, g = wr.heap.size := ⟨_, rfl⟩
          rw [← hg] at B0 ⊢
          refine wp_region_slots hmix [fun v _ => v = vv vk vn vs, fun v _ => v = .bool false, fun v _ => v = .bool true, fun v _ => v = .bool true, fun _ _ => True, fun _ _ => True, fun _ _ => True, fun _ _ => True, fun _ _ => True, fun _ _ => True, fun _ _ => True, fun _ _ => True, fun v _ => v = .bool true]
            33 rfl (by kernel_rfl) ⟨mono_eq _, mono_eq _, mono_eq _, mono_eq _, mono_true, mono_true, mono_true, mono_true, mono_true, mono_true, mono_true, mono_true, mono_eq _, trivial⟩ ?_ ?_
          · refine ops_cons 0 ?_ (ops_cons 1 ?_ (ops_cons 2 ?_ (ops_cons 3 ?_ (ops_cons 4 ?_ (ops_cons 5 ?_ (ops_cons 6 ?_ (ops_cons 7 ?_ (ops_cons 8 ?_ (ops_cons 9 ?_ (ops_cons 10 ?_ (ops_cons 11 ?_ (ops_cons 12 ?_ (ops_nil 13)))))))))))))
            · refine op_value fun a w c => ⟨(wanted_plain rfl), _, run_load_val rfl ((c.was 6 (by kernel_rfl) rfl) : a.eval (.tmp 6) = .pointer (some ⟨g, 0, none⟩)) (B0.ev c.ev), rfl⟩
            · refine op_call fun a w c => ⟨(wanted_plain rfl), 52, #[vv vk vn vs], ?_, ?_⟩
              · rw [run_call 52 _ _ rfl (by kernel_rfl)]
                have e19 : a.eval (.tmp 19) = vv vk vn vs := (c.new 0 19 (by kernel_rfl) (by kernel_rfl))
                simp [e19]
              · refine (HV w).mono ?_
                rintro e w2 ⟨rfl, hE⟩
                exact ⟨_, rfl, hE, rfl⟩
            · refine op_value fun a w c => ⟨(wanted_plain rfl), .bool true, ?_, rfl⟩
              have e20 : a.eval (.tmp 20) = .bool false := (c.new 1 20 (by kernel_rfl) (by kernel_rfl))
              generalize a.eval = ρ at e20 ⊢
              simp [execOp, e20, go_sem]
            · refine op_value fun a w c => ⟨(wanted_plain rfl), _, run_move _ rfl w, (c.new 2 21 (by kernel_rfl) (by kernel_rfl))⟩
            · refine op_skip fun a w c => ⟨(wanted_no rfl (by kernel_rfl) (c.new 3 22 (by kernel_rfl) (by kernel_rfl)) (by decide)), trivial⟩
            · refine op_skip fun a w c => ⟨(wanted_no rfl (by kernel_rfl) (c.new 3 22 (by kernel_rfl) (by kernel_rfl)) (by decide)), trivial⟩
            · refine op_skip fun a w c => ⟨(wanted_no rfl (by kernel_rfl) (c.new 3 22 (by kernel_rfl) (by kernel_rfl)) (by decide)), trivial⟩
            · refine op_skip fun a w c => ⟨(wanted_no rfl (by kernel_rfl) (c.new 3 22 (by kernel_rfl) (by kernel_rfl)) (by decide)), trivial⟩
            · refine op_skip fun a w c => ⟨(wanted_no rfl (by kernel_rfl) (c.new 3 22 (by kernel_rfl) (by kernel_rfl)) (by decide)), trivial⟩
            · refine op_skip fun a w c => ⟨(wanted_no rfl (by kernel_rfl) (c.new 3 22 (by kernel_rfl) (by kernel_rfl)) (by decide)), trivial⟩
            · refine op_skip fun a w c => ⟨(wanted_no rfl (by kernel_rfl) (c.new 3 22 (by kernel_rfl) (by kernel_rfl)) (by decide)), trivial⟩
            · refine op_skip fun a w c => ⟨(wanted_no rfl (by kernel_rfl) (c.new 3 22 (by kernel_rfl) (by kernel_rfl)) (by decide)), trivial⟩
            · refine op_value fun a w c => ⟨(wanted_plain rfl), _, run_pick_true rfl (c.new 3 22 (by kernel_rfl) (by kernel_rfl)) w, (evc a _)⟩
          intro s w4 hEr hold hnew
          have f0 : s 0 = .slice (some ⟨b2, off', none⟩) m cap := hold 0 (by kernel_rfl)
          have f1 : s 1 = .slice (some ⟨b1, off, none⟩) m cap' := hold 1 (by kernel_rfl)
          have f2 : s 2 = undef := hold 2 (by kernel_rfl)
          have f3 : s 3 = undef := hold 3 (by kernel_rfl)
          have f5 : s 5 = .int .i64 (k : Int) := hold 5 (by kernel_rfl)
          have f6 : s 6 = .pointer (some ⟨g, 0, none⟩) := hold 6 (by kernel_rfl)
          have f7 : s 7 = .slice (some ⟨b1, off, none⟩) m cap' := hold 7 (by kernel_rfl)
          have f8 : s 8 = .int .i64 (m : Int) := hold 8 (by kernel_rfl)
          have f9 : s 9 = .slice (some ⟨b2, off', none⟩) m cap := hold 9 (by kernel_rfl)
          have f10 : s 10 = .int .i64 (m : Int) := hold 10 (by kernel_rfl)
          have f11 : s 11 = .bool false := hold 11 (by kernel_rfl)
          have f12 : s 12 = .slice (some ⟨b1, off, none⟩) m cap' := hold 12 (by kernel_rfl)
          have f13 : s 13 = .int .i64 (m : Int) := hold 13 (by kernel_rfl)
          have f14 : s 14 = .int .i64 (k : Int) := hold 14 (by kernel_rfl)
          have f19 : s 19 = vv vk vn vs := hnew 0 19 (by kernel_rfl)
          have f20 : s 20 = .bool false := hnew 1 20 (by kernel_rfl)
          have f21 : s 21 = .bool true := hnew 2 21 (by kernel_rfl)
          have f22 : s 22 = .bool true := hnew 3 22 (by kernel_rfl)
          have f31 : s 31 = .bool true := hnew 12 31 (by kernel_rfl)
          change Exit.then _ _ .normal ⟨#[s 0, s 1, s 2, s 3, s 4, s 5, s 6, s 7, s 8, s 9, s 10, s 11, s 12, s 13, s 14, s 15, s 16, s 17, s 18, s 19, s 20, s 21, s 22, s 23, s 24, s 25, s 26, s 27, s 28, s 29, s 30, s 31, s 32], _⟩ _
          simp only [f0, f1, f2, f3, f5, f6, f7, f8, f9, f10, f11, f12, f13, f14, f19, f20, f21, f22, f31]
          clear hold hnew
          go_wp2
          go_ret
          exact ⟨by rw [HF.out]; rfl, (hE.trans hE0).trans hEr⟩
        · by_cases hkk : vk = ck
          · subst hkk
            have HF := Lib.hid (fitsL_step k l r _ _ HT.out HY.out HX.out hrr rfl)
            clear hrr
            go_wp2_with fail
            rw [← hw0]
            obtain ⟨g, hg⟩ : ∃ g, g = wr.heap.size := ⟨_, rfl⟩
            rw [← hg] at B0 ⊢
            refine wp_region_slots hmix [fun v _ => v = vv vk vn vs, fun v _ => v = .bool true, fun v _ => v = .bool false, fun v _ => v = .bool false, fun v _ => v = .pointer (some ⟨g, 0, none⟩), fun v _ => v = .int .i64 vk, fun v _ => v = .slice (some ⟨b2, off', none⟩) m cap, fun v _ => v = .int .i64 (k : Int), fun v _ => v = .pointer (some ⟨b2, off' + k * 2, none⟩), fun v _ => v = .pointer (some ⟨b2, off' + k * 2 + 1, none⟩), fun v _ => v = .int .i64 vk, fun v _ => v = .bool false, fun v _ => v = .bool false]
              33 rfl (by kernel_rfl) ⟨mono_eq _, mono_eq _, mono_eq _, mono_eq _, mono_eq _, mono_eq _, mono_eq _, mono_eq _, mono_eq _, mono_eq _, mono_eq _, mono_eq _, mono_eq _, trivial⟩ ?_ ?_
            · refine ops_cons 0 ?_ (ops_cons 1 ?_ (ops_cons 2 ?_ (ops_cons 3 ?_ (ops_cons 4 ?_ (ops_cons 5 ?_ (ops_cons 6 ?_ (ops_cons 7 ?_ (ops_cons 8 ?_ (ops_cons 9 ?_ (ops_cons 10 ?_ (ops_cons 11 ?_ (ops_cons 12 ?_ (ops_nil 13)))))))))))))
              · refine op_value fun a w c => ⟨(wanted_plain rfl), _, run_load_val rfl ((c.was 6 (by kernel_rfl) rfl) : a.eval (.tmp 6) = .pointer (some ⟨g, 0, none⟩)) (B0.ev c.ev), rfl⟩
              · refine op_call fun a w c => ⟨(wanted_plain rfl), 52, #[vv vk vn vs], ?_, ?_⟩
                · rw [run_call 52 _ _ rfl (by kernel_rfl)]
                  have e19 : a.eval (.tmp 19) = vv vk vn vs := (c.new 0 19 (by kernel_rfl) (by kernel_rfl))
                  simp [e19]
                · refine (HV w).mono ?_
                  rintro e w2 ⟨rfl, hE⟩
                  exact ⟨_, rfl, hE, rfl⟩
              · refine op_value fun a w c => ⟨(wanted_plain rfl), .bool false, ?_, rfl⟩
                have e20 : a.eval (.tmp 20) = .bool true := (c.new 1 20 (by kernel_rfl) (by kernel_rfl))
                generalize a.eval = ρ at e20 ⊢
                simp [execOp, e20, go_sem]
              · refine op_value fun a w c => ⟨(wanted_plain rfl), _, run_move _ rfl w, (c.new 2 21 (by kernel_rfl) (by kernel_rfl))⟩
              · refine op_value fun a w c => ⟨(wanted_yes rfl (by kernel_rfl) (c.new 3 22 (by kernel_rfl) (by kernel_rfl))), .pointer (some ⟨g, 0, none⟩), ?_, rfl⟩
                have e6 : a.eval (.tmp 6) = .pointer (some ⟨g, 0, none⟩) := (c.was 6 (by kernel_rfl) rfl)
                generalize a.eval = ρ at e6 ⊢
                simp [execOp, e6, go_sem]
              · refine op_value fun a w c => ⟨(wanted_yes rfl (by kernel_rfl) (c.new 3 22 (by kernel_rfl) (by kernel_rfl))), .int .i64 vk, ?_, rfl⟩
                have e23 : a.eval (.tmp 23) = .pointer (some ⟨g, 0, none⟩) := (c.new 4 23 (by kernel_rfl) (by kernel_rfl))
                have hc := (B0.ev c.ev).c0
                generalize a.eval = ρ at e23 ⊢
                simp [execOp, e23, hc, go_sem]
              · refine op_value fun a w c => ⟨(wanted_yes rfl (by kernel_rfl) (c.new 3 22 (by kernel_rfl) (by kernel_rfl))), _, run_move _ rfl w, (c.was 0 (by kernel_rfl) rfl)⟩
              · refine op_value fun a w c => ⟨(wanted_yes rfl (by kernel_rfl) (c.new 3 22 (by kernel_rfl) (by kernel_rfl))), _, run_move _ rfl w, (c.was 5 (by kernel_rfl) rfl)⟩
              · refine op_value fun a w c => ⟨(wanted_yes rfl (by kernel_rfl) (c.new 3 22 (by kernel_rfl) (by kernel_rfl))), .pointer (some ⟨b2, off' + k * 2, none⟩), ?_, rfl⟩
                have e25 : a.eval (.tmp 25) = .slice (some ⟨b2, off', none⟩) m cap := (c.new 6 25 (by kernel_rfl) (by kernel_rfl))
                have e26 : a.eval (.tmp 26) = .int .i64 (k : Int) := (c.new 7 26 (by kernel_rfl) (by kernel_rfl))
                generalize a.eval = ρ at e25 e26 ⊢
                simp [execOp, e25, e26, go_sem, i1, i2]
              · refine op_value fun a w c => ⟨(wanted_yes rfl (by kernel_rfl) (c.new 3 22 (by kernel_rfl) (by kernel_rfl))), .pointer (some ⟨b2, off' + k * 2 + 1, none⟩), ?_, rfl⟩
                have e27 : a.eval (.tmp 27) = .pointer (some ⟨b2, off' + k * 2, none⟩) := (c.new 8 27 (by kernel_rfl) (by kernel_rfl))
                generalize a.eval = ρ at e27 ⊢
                simp [execOp, e27, go_sem]
              · refine op_value fun a w c => ⟨(wanted_yes rfl (by kernel_rfl) (c.new 3 22 (by kernel_rfl) (by kernel_rfl))), .int .i64 vk, ?_, rfl⟩
                have e28 : a.eval (.tmp 28) = .pointer (some ⟨b2, off' + k * 2 + 1, none⟩) := (c.new 9 28 (by kernel_rfl) (by kernel_rfl))
                have hc := (c.ev.cell (p := ⟨_, _, none⟩) hb2).trans d1
                generalize a.eval = ρ at e28 ⊢
                simp [execOp, e28, hc, go_sem]
              · refine op_value fun a w c => ⟨(wanted_yes rfl (by kernel_rfl) (c.new 3 22 (by kernel_rfl) (by kernel_rfl))), .bool false, ?_, rfl⟩
                have e24 : a.eval (.tmp 24) = .int .i64 vk := (c.new 5 24 (by kernel_rfl) (by kernel_rfl))
                have e29 : a.eval (.tmp 29) = .int .i64 vk := (c.new 10 29 (by kernel_rfl) (by kernel_rfl))
                generalize a.eval = ρ at e24 e29 ⊢
                simp [execOp, e24, e29, go_sem]
              · refine op_value fun a w c => ⟨(wanted_plain rfl), _, run_pick_false rfl (c.new 3 22 (by kernel_rfl) (by kernel_rfl)) w, (c.new 11 30 (by kernel_rfl) (by kernel_rfl))⟩
            intro s w4 hEr hold hnew
            have f0 : s 0 = .slice (some ⟨b2, off', none⟩) m cap := hold 0 (by kernel_rfl)
            have f1 : s 1 = .slice (some ⟨b1, off, none⟩) m cap' := hold 1 (by kernel_rfl)
            have f2 : s 2 = undef := hold 2 (by kernel_rfl)
            have f3 : s 3 = undef := hold 3 (by kernel_rfl)
            have f5 : s 5 = .int .i64 (k : Int) := hold 5 (by kernel_rfl)
            have f6 : s 6 = .pointer (some ⟨g, 0, none⟩) := hold 6 (by kernel_rfl)
            have f7 : s 7 = .slice (some ⟨b1, off, none⟩) m cap' := hold 7 (by kernel_rfl)
            have f8 : s 8 = .int .i64 (m : Int) := hold 8 (by kernel_rfl)
            have f9 : s 9 = .slice (some ⟨b2, off', none⟩) m cap := hold 9 (by kernel_rfl)
            have f10 : s 10 = .int .i64 (m : Int) := hold 10 (by kernel_rfl)
            have f11 : s 11 = .bool false := hold 11 (by kernel_rfl)
            have f12 : s 12 = .slice (some ⟨b1, off, none⟩) m cap' := hold 12 (by kernel_rfl)
            have f13 : s 13 = .int .i64 (m : Int) := hold 13 (by kernel_rfl)
            have f14 : s 14 = .int .i64 (k : Int) := hold 14 (by kernel_rfl)
            have f19 : s 19 = vv vk vn vs := hnew 0 19 (by kernel_rfl)
            have f20 : s 20 = .bool true := hnew 1 20 (by kernel_rfl)
            have f21 : s 21 = .bool false := hnew 2 21 (by kernel_rfl)
            have f22 : s 22 = .bool false := hnew 3 22 (by kernel_rfl)
            have f23 : s 23 = .pointer (some ⟨g, 0, none⟩) := hnew 4 23 (by kernel_rfl)
            have f24 : s 24 = .int .i64 vk := hnew 5 24 (by kernel_rfl)
            have f25 : s 25 = .slice (some ⟨b2, off', none⟩) m cap := hnew 6 25 (by kernel_rfl)
            have f26 : s 26 = .int .i64 (k : Int) := hnew 7 26 (by kernel_rfl)
            have f27 : s 27 = .pointer (some ⟨b2, off' + k * 2, none⟩) := hnew 8 27 (by kernel_rfl)
            have f28 : s 28 = .pointer (some ⟨b2, off' + k * 2 + 1, none⟩) := hnew 9 28 (by kernel_rfl)
            have f29 : s 29 = .int .i64 vk := hnew 10 29 (by kernel_rfl)
            have f30 : s 30 = .bool false := hnew 11 30 (by kernel_rfl)
            have f31 : s 31 = .bool false := hnew 12 31 (by kernel_rfl)
            change Exit.then _ _ .normal ⟨#[s 0, s 1, s 2, s 3, s 4, s 5, s 6, s 7, s 8, s 9, s 10, s 11, s 12, s 13, s 14, s 15, s 16, s 17, s 18, s 19, s 20, s 21, s 22, s 23, s 24, s 25, s 26, s 27, s 28, s 29, s 30, s 31, s 32], _⟩ _
            simp only [f0, f1, f2, f3, f5, f6, f7, f8, f9, f10, f11, f12, f13, f14, f19, f20, f21, f22, f23, f24, f25, f26, f27, f28, f29, f30, f31]
            clear hold hnew
            generalize s 4 = u4
            generalize s 15 = u15
            generalize s 16 = u16
            generalize s 17 = u17
            generalize s 18 = u18
            generalize s 32 = u32
            go_wp2
            go_roundw
            case rel => exact ⟨k + 1, by omega, by go_num, HF, (hE.trans hE0).trans hEr⟩
            case measure => simp [intOf]; omega
          · have HF : Hid (fitsL l r = false) := Lib.hid (fitsL_not k l r _ _ HY.out HX.out (.inr hkk))
            clear hrr
            go_wp2_with fail
            rw [← hw0]
            obtain ⟨g, hg⟩ : ∃ g, g = wr.heap.size := ⟨_, rfl⟩
            rw [← hg] at B0 ⊢
            refine wp_region_slots hmix [fun v _ => v = vv vk vn vs, fun v _ => v = .bool true, fun v _ => v = .bool false, fun v _ => v = .bool false, fun v _ => v = .pointer (some ⟨g, 0, none⟩), fun v _ => v = .int .i64 vk, fun v _ => v = .slice (some ⟨b2, off', none⟩) m cap, fun v _ => v = .int .i64 (k : Int), fun v _ => v = .pointer (some ⟨b2, off' + k * 2, none⟩), fun v _ => v = .pointer (some ⟨b2, off' + k * 2 + 1, none⟩), fun v _ => v = .int .i64 ck, fun v _ => v = .bool true, fun v _ => v = .bool true]
              33 rfl (by kernel_rfl) ⟨mono_eq _, mono_eq _, mono_eq _, mono_eq _, mono_eq _, mono_eq _, mono_eq _, mono_eq _, mono_eq _, mono_eq _, mono_eq _, mono_eq _, mono_eq _, trivial⟩ ?_ ?_
            · refine ops_cons 0 ?_ (ops_cons 1 ?_ (ops_cons 2 ?_ (ops_cons 3 ?_ (ops_cons 4 ?_ (ops_cons 5 ?_ (ops_cons 6 ?_ (ops_cons 7 ?_ (ops_cons 8 ?_ (ops_cons 9 ?_ (ops_cons 10 ?_ (ops_cons 11 ?_ (ops_cons 12 ?_ (ops_nil 13)))))))))))))
              · refine op_value fun a w c => ⟨(wanted_plain rfl), _, run_load_val rfl ((c.was 6 (by kernel_rfl) rfl) : a.eval (.tmp 6) = .pointer (some ⟨g, 0, none⟩)) (B0.ev c.ev), rfl⟩
              · refine op_call fun a w c => ⟨(wanted_plain rfl), 52, #[vv vk vn vs], ?_, ?_⟩
                · rw [run_call 52 _ _ rfl (by kernel_rfl)]
                  have e19 : a.eval (.tmp 19) = vv vk vn vs := (c.new 0 19 (by kernel_rfl) (by kernel_rfl))
                  simp [e19]
                · refine (HV w).mono ?_
                  rintro e w2 ⟨rfl, hE⟩
                  exact ⟨_, rfl, hE, rfl⟩
              · refine op_value fun a w c => ⟨(wanted_plain rfl), .bool false, ?_, rfl⟩
                have e20 : a.eval (.tmp 20) = .bool true := (c.new 1 20 (by kernel_rfl) (by kernel_rfl))
                generalize a.eval = ρ at e20 ⊢
                simp [execOp, e20, go_sem]
              · refine op_value fun a w c => ⟨(wanted_plain rfl), _, run_move _ rfl w, (c.new 2 21 (by kernel_rfl) (by kernel_rfl))⟩
              · refine op_value fun a w c => ⟨(wanted_yes rfl (by kernel_rfl) (c.new 3 22 (by kernel_rfl) (by kernel_rfl))), .pointer (some ⟨g, 0, none⟩), ?_, rfl⟩
                have e6 : a.eval (.tmp 6) = .pointer (some ⟨g, 0, none⟩) := (c.was 6 (by kernel_rfl) rfl)
                generalize a.eval = ρ at e6 ⊢
                simp [execOp, e6, go_sem]
              · refine op_value fun a w c => ⟨(wanted_yes rfl (by kernel_rfl) (c.new 3 22 (by kernel_rfl) (by kernel_rfl))), .int .i64 vk, ?_, rfl⟩
                have e23 : a.eval (.tmp 23) = .pointer (some ⟨g, 0, none⟩) := (c.new 4 23 (by kernel_rfl) (by kernel_rfl))
                have hc := (B0.ev c.ev).c0
                generalize a.eval = ρ at e23 ⊢
                simp [execOp, e23, hc, go_sem]
              · refine op_value fun a w c => ⟨(wanted_yes rfl (by kernel_rfl) (c.new 3 22 (by kernel_rfl) (by kernel_rfl))), _, run_move _ rfl w, (c.was 0 (by kernel_rfl) rfl)⟩
              · refine op_value fun a w c => ⟨(wanted_yes rfl (by kernel_rfl) (c.new 3 22 (by kernel_rfl) (by kernel_rfl))), _, run_move _ rfl w, (c.was 5 (by kernel_rfl) rfl)⟩
              · refine op_value fun a w c => ⟨(wanted_yes rfl (by kernel_rfl) (c.new 3 22 (by kernel_rfl) (by kernel_rfl))), .pointer (some ⟨b2, off' + k * 2, none⟩), ?_, rfl⟩
                have e25 : a.eval (.tmp 25) = .slice (some ⟨b2, off', none⟩) m cap := (c.new 6 25 (by kernel_rfl) (by kernel_rfl))
                have e26 : a.eval (.tmp 26) = .int .i64 (k : Int) := (c.new 7 26 (by kernel_rfl) (by kernel_rfl))
                generalize a.eval = ρ at e25 e26 ⊢
                simp [execOp, e25, e26, go_sem, i1, i2]
              · refine op_value fun a w c => ⟨(wanted_yes rfl (by kernel_rfl) (c.new 3 22 (by kernel_rfl) (by kernel_rfl))), .pointer (some ⟨b2, off' + k * 2 + 1, none⟩), ?_, rfl⟩
                have e27 : a.eval (.tmp 27) = .pointer (some ⟨b2, off' + k * 2, none⟩) := (c.new 8 27 (by kernel_rfl) (by kernel_rfl))
                generalize a.eval = ρ at e27 ⊢
                simp [execOp, e27, go_sem]
              · refine op_value fun a w c => ⟨(wanted_yes rfl (by kernel_rfl) (c.new 3 22 (by kernel_rfl) (by kernel_rfl))), .int .i64 ck, ?_, rfl⟩
                have e28 : a.eval (.tmp 28) = .pointer (some ⟨b2, off' + k * 2 + 1, none⟩) := (c.new 9 28 (by kernel_rfl) (by kernel_rfl))
                have hc := (c.ev.cell (p := ⟨_, _, none⟩) hb2).trans d1
                generalize a.eval = ρ at e28 ⊢
                simp [execOp, e28, hc, go_sem]
              · refine op_value fun a w c => ⟨(wanted_yes rfl (by kernel_rfl) (c.new 3 22 (by kernel_rfl) (by kernel_rfl))), .bool true, ?_, rfl⟩
                have e24 : a.eval (.tmp 24) = .int .i64 vk := (c.new 5 24 (by kernel_rfl) (by kernel_rfl))
                have e29 : a.eval (.tmp 29) = .int .i64 ck := (c.new 10 29 (by kernel_rfl) (by kernel_rfl))
                generalize a.eval = ρ at e24 e29 ⊢
                simp [execOp, e24, e29, go_sem, hkk]
              · refine op_value fun a w c => ⟨(wanted_plain rfl), _, run_pick_false rfl (c.new 3 22 (by kernel_rfl) (by kernel_rfl)) w, (c.new 11 30 (by kernel_rfl) (by kernel_rfl))⟩
            intro s w4 hEr hold hnew
            have f0 : s 0 = .slice (some ⟨b2, off', none⟩) m cap := hold 0 (by kernel_rfl)
            have f1 : s 1 = .slice (some ⟨b1, off, none⟩) m cap' := hold 1 (by kernel_rfl)
            have f2 : s 2 = undef := hold 2 (by kernel_rfl)
            have f3 : s 3 = undef := hold 3 (by kernel_rfl)
            have f5 : s 5 = .int .i64 (k : Int) := hold 5 (by kernel_rfl)
            have f6 : s 6 = .pointer (some ⟨g, 0, none⟩) := hold 6 (by kernel_rfl)
            have f7 : s 7 = .slice (some ⟨b1, off, none⟩) m cap' := hold 7 (by kernel_rfl)
            have f8 : s 8 = .int .i64 (m : Int) := hold 8 (by kernel_rfl)
            have f9 : s 9 = .slice (some ⟨b2, off', none⟩) m cap := hold 9 (by kernel_rfl)
            have f10 : s 10 = .int .i64 (m : Int) := hold 10 (by kernel_rfl)
            have f11 : s 11 = .bool false := hold 11 (by kernel_rfl)
            have f12 : s 12 = .slice (some ⟨b1, off, none⟩) m cap' := hold 12 (by kernel_rfl)
            have f13 : s 13 = .int .i64 (m : Int) := hold 13 (by kernel_rfl)
            have f14 : s 14 = .int .i64 (k : Int) := hold 14 (by kernel_rfl)
            have f19 : s 19 = vv vk vn vs := hnew 0 19 (by kernel_rfl)
            have f20 : s 20 = .bool true := hnew 1 20 (by kernel_rfl)
            have f21 : s 21 = .bool false := hnew 2 21 (by kernel_rfl)
            have f22 : s 22 = .bool false := hnew 3 22 (by kernel_rfl)
            have f23 : s 23 = .pointer (some ⟨g, 0, none⟩) := hnew 4 23 (by kernel_rfl)
            have f24 : s 24 = .int .i64 vk := hnew 5 24 (by kernel_rfl)
            have f25 : s 25 = .slice (some ⟨b2, off', none⟩) m cap := hnew 6 25 (by kernel_rfl)
            have f26 : s 26 = .int .i64 (k : Int) := hnew 7 26 (by kernel_rfl)
            have f27 : s 27 = .pointer (some ⟨b2, off' + k * 2, none⟩) := hnew 8 27 (by kernel_rfl)
            have f28 : s 28 = .pointer (some ⟨b2, off' + k * 2 + 1, none⟩) := hnew 9 28 (by kernel_rfl)
            have f29 : s 29 = .int .i64 ck := hnew 10 29 (by kernel_rfl)
            have f30 : s 30 = .bool true := hnew 11 30 (by kernel_rfl)
            have f31 : s 31 = .bool true := hnew 12 31 (by kernel_rfl)
            change Exit.then _ _ .normal ⟨#[s 0, s 1, s 2, s 3, s 4, s 5, s 6, s 7, s 8, s 9, s 10, s 11, s 12, s 13, s 14, s 15, s 16, s 17, s 18, s 19, s 20, s 21, s 22, s 23, s 24, s 25, s 26, s 27, s 28, s 29, s 30, s 31, s 32], _⟩ _
            simp only [f0, f1, f2, f3, f5, f6, f7, f8, f9, f10, f11, f12, f13, f14, f19, f20, f21, f22, f23, f24, f25, f26, f27, f28, f29, f30, f31]
            clear hold hnew
            go_wp2
            go_ret
            exact ⟨by rw [HF.out]; rfl, (hE.trans hE0).trans hEr⟩
      · obtain rfl : k = m := by omega
        have HF : Hid (fitsL l r = true) := Lib.hid (by
          have := HT.out
          rwa [List.take_of_length_le (by rw [HL.out]; exact Nat.le_refl _), List.take_of_length_le (by rw [HM.out]; exact Nat.le_refl _)] at this)
        go_wp2
        go_ret
        exact ⟨by rw [HF.out]; rfl, hE⟩
  · have hne : ¬ (m : Int) = (n : Int) := by omega
    have HF : Hid (fitsL l r = false) := Lib.hid (fitsL_ne (by rw [HL.out, HM.out]; omega))
    go_enter Try.func34, Try.ntmps34
    go_wp2
    go_ret
    exact ⟨by rw [HF.out]; rfl, Ev.refl _⟩
end Go.Proofs.Ytgiofdmedhhobaa

namespace Go.Proofs.Ytgiofdmedhhobaa
open Go.RowKit
set_option linter.unusedVariables false

theorem keep_num (n : Int) (w : World) :
    Calls Try.prog 5 #[.int .i64 n] w fun e w' => e = .returned (vv 1 n ⟨#[]⟩) ∧ Ev w w' := by
  go_enter Try.func5, Try.ntmps5
  go_wp2
  refine bodyPost_ret (ret_val rfl _ _ w.heap.size 1 n ⟨#[]⟩ rfl (heap_alloc_new w _)) rfl ?_
  exact ⟨rfl, Ev.alloc _ _⟩
theorem keep_str (s : ByteArray) (w : World) :
    Calls Try.prog 6 #[.string s] w fun e w' => e = .returned (vv 2 0 s) ∧ Ev w w' := by
  go_enter Try.func6, Try.ntmps6
  go_wp2
  refine bodyPost_ret (ret_val rfl _ _ w.heap.size 2 0 s rfl (heap_alloc_new w _)) rfl ?_
  exact ⟨rfl, Ev.alloc _ _⟩

/-- The row of numbers. -/
def numV (x : Int) : V := (1, x, ⟨#[]⟩)
/-- The slice holds the numbers l (int64). -/
abbrev Is := Sl 1 (fun x : Int => [.int .i64 x])

set_option maxRecDepth 100000 in
set_option maxHeartbeats 1600000 in
theorem keep_nums {A : Option Addr} {n cap : Nat} {l : List Int} (w : World) (h : Is w A n cap l) (hn : n ≤ 1000) :
    Calls Try.prog 17 #[.slice A n cap] w fun e w' => ∃ v, e = .returned v ∧ Vrow w' v (l.map numV) ∧ (∀ g, v.ownBlock = some g → w.heap.size ≤ g) ∧ Ev w w' := by
  have hc := h.le
  have hm := h.max
  have HN := Lib.hid h.len
  go_enter Try.func17, Try.ntmps17
  go_wp2
  go_loopw [4, 3] (fun i v wr => ∃ k : Nat, k ≤ n ∧ i = .int .i64 (k : Int) ∧ Vrow wr v ((l.take k).map numV) ∧ (∀ g, v.ownBlock = some g → w.heap.size ≤ g) ∧ Ev w wr) (fun i _ _ => n - (intOf i).toNat)
  case atStart => exact ⟨0, Nat.zero_le _, rfl, Vrow.nil_ _, (by simp [Value.ownBlock]), Ev.refl _⟩
  case round =>
    obtain ⟨k, hk, rfl, hV, hg, hE⟩ := hrel
    by_cases hlt : k < n
    · obtain ⟨x, hx⟩ := h.at hlt
      obtain ⟨b, off, rfl, hb, hcl⟩ := (h.ev hE).rd (by omega)
      have c0 := hcl k x hx 0 _ rfl
      rw [Nat.mul_one, Nat.add_zero] at c0
      have HF : Hid ((l.take (k + 1)).map numV = (l.take k).map numV ++ [numV x]) := Lib.hid (by
        obtain ⟨hk2, rfl⟩ := List.getElem?_eq_some_iff.1 hx
        rw [List.take_succ_eq_append_getElem hk2, List.map_append]
        rfl)
      have hlen : ((l.take k).map numV).length ≤ 1000 := by simp; omega
      clear hx hcl
      have HM := Lib.hid (fun w1 => keep_num x w1)
      go_wp2_with (first | ((with_reducible refine (HM.out _).mono ?_); rintro y w2 ⟨rfl, hE2⟩; have hV2 := (hV.ev hE2).ev (Ev.alloc w2 (.cells #[.int .i64 1, .int .i64 x, .string ⟨#[]⟩] 25))) | (at_builtin; refine wpList_append_vals rfl (.tmp 11) (.tmp 17) rfl Try.underlying29 Try.infoVal u3 _ rfl hV2 (some ⟨w2.heap.size, 0, none⟩) 1 1 [(1, x, ⟨#[]⟩)] rfl (Vs.made_one w2 1 x ⟨#[]⟩) (by simp only [List.length_cons, List.length_nil]; omega) ?_; intro v4 w4 hv4 hb4 hs4; obtain ⟨A4, n4, cap4, rfl⟩ := hv4.form))
      go_roundw
      case rel =>
        refine ⟨k + 1, by omega, by go_num, HF.out ▸ hv4, hs4.ge (by have := hE.size; have := hE2.size; simp; omega) hg, ((hE.trans hE2).trans (Ev.alloc _ _)).rows hg hb4⟩
      case measure => simp [intOf]; omega
    · obtain rfl : k = n := by omega
      go_wp2
      go_ret
      rw [List.take_of_length_le (by rw [HN.out]; exact Nat.le_refl _)] at hV
      exact ⟨_, rfl, hV, hg, hE⟩

end Go.Proofs.Ytgiofdmedhhobaa

namespace Go.Proofs.Ytgiofdmedhhobaa
open Go.RowKit
set_option linter.unusedVariables false

theorem Colbox.lt {g : Nat} {s : ByteArray} {k : Int} {w : World} (h : Colbox g s k w) : g < w.heap.size := (Array.getElem?_eq_some_iff.1 h.blk).1

end Go.Proofs.Ytgiofdmedhhobaa

namespace Go.Proofs.Ytgiofdmedhhobaa
open Go.RowKit
set_option linter.unusedVariables false

theorem Is.made (l : List Int) (n : Nat) (hn : l.length = n) (hm : n ≤ 1000) (w : World) (cs : Array Value) (hc : cs = (l.map fun x => Value.int .i64 x).toArray) : Is (w.alloc (.cells cs 2)) (some ⟨w.heap.size, 0, none⟩) n n l :=
  ⟨hn, Nat.le_refl _, by omega, by simp, fun _ => ⟨w.heap.size, 0, rfl, by simp, fun i x hx j u hu => by
    have hi := (List.getElem?_eq_some_iff.1 hx).1
    have hj : j = 0 := by have := (List.getElem?_eq_some_iff.1 hu).1; simp at this; omega
    subst hj
    rw [Lib.cell_of_heap (heap_alloc_new w _), hc, List.getElem?_toArray, List.getElem?_map]
    rw [Nat.mul_one, Nat.zero_add, Nat.add_zero, hx]
    simpa using hu⟩⟩
theorem Cs.made_one (w : World) (s : ByteArray) (k : Int) : Cs (w.alloc (.cells #[.string s, .int .i64 k] 64)) (some ⟨w.heap.size, 0, none⟩) 1 1 [(s, k)] :=
  ⟨rfl, Nat.le_refl _, by omega, by simp, fun _ => ⟨w.heap.size, 0, rfl, by simp, fun i x hx j u hu => by
    have hi : i = 0 := by have := (List.getElem?_eq_some_iff.1 hx).1; simp at this; omega
    subst hi
    simp at hx
    subst hx
    rw [Lib.cell_of_heap (heap_alloc_new w _)]
    simpa [ccells] using hu⟩⟩
/-- A literal's numbers as a row. -/
theorem nums_lit (l : List Int) (n : Nat) (hn : l.length = n) (hm : n ≤ 1000) (w : World) (cs : Array Value) (hc : cs = (l.map fun x => Value.int .i64 x).toArray) :
    Calls Try.prog 17 #[.slice (some ⟨w.heap.size, 0, none⟩) n n] (w.alloc (.cells cs 2)) fun e w' => ∃ A m cap, e = .returned (.slice A m cap) ∧ Vs w' A m cap (l.map numV) ∧ Ev w w' :=
  (keep_nums _ (Is.made l n hn hm w cs hc) hm).mono fun e w' ⟨v, he, hv, _, hE⟩ => by
    obtain ⟨A, cap, rfl, hvs, _⟩ := hv.vs
    exact ⟨A, _, cap, he, hvs, (Ev.alloc _ _).trans hE⟩

theorem known_less1 : lessR ([1].map numV) ([1, 2].map numV) = true := by simp [lessR, rightR, okR, rightV, lessL, numV]
theorem known_less2 : lessR ([2].map numV) ([1, 2].map numV) = false := by simp [lessR, rightR, okR, rightV, lessL, lessV, numV]
theorem known_fits : fitsL [(⟨#[97]⟩, 1)] [(2, 0, ⟨#[120]⟩)] = false := by simp [fitsL]
theorem known_name1 : nameV ⟨#[97]⟩ = true := by decide +kernel
theorem known_name2 : nameV ⟨#[116, 97, 98, 108, 101]⟩ = false := by decide +kernel

end Go.Proofs.Ytgiofdmedhhobaa

namespace Go.Proofs.Ytgiofdmedhhobaa
open Go.RowKit
set_option linter.unusedVariables false

end Go.Proofs.Ytgiofdmedhhobaa

namespace Go.Proofs.Ytgiofdmedhhobaa
open Go.RowKit
set_option linter.unusedVariables false

/-- A Writer that is written in new memory turns nothing that was there. -/
theorem Wrote.new5 {w w1 w2 : World} {v' : Value} (h : Ev w w1) {p : Nat} (hp : w.heap.size ≤ p) (k : Wrote p (.slice none 0 0) w1 v' w2) : Ev w w2 :=
  (((But.of_ev (K := []) h).trans k.but (fun x hx => .inr (by simp [foot, Value.ownBlock] at hx; omega))).ev (by simp))
theorem But.new1 {w w1 w2 : World} {p : Nat} (h : Ev w w1) (hp : w.heap.size ≤ p) (k : But [p] w1 w2) : Ev w w2 :=
  ((But.of_ev (K := []) h).trans k (fun x hx => .inr (by simp at hx; omega))).ev (by simp)
theorem Sl.lt {α : Type} {k : Nat} {enc : α → List Value} {w : World} {A : Option Addr} {n cap : Nat} {l : List α} (h : Sl k enc w A n cap l) (h0 : 0 < n) : ∀ ad, A = some ad → ad.block < w.heap.size := by
  intro ad e
  obtain ⟨b, off, e2, hb, _⟩ := h.rd h0
  rw [e] at e2
  obtain rfl := Option.some.inj e2
  exact hb

theorem right_size5 {x : V} (h : rightVV x = true) : x.2.2.size ≤ 40 := by
  rcases right_kind h with ⟨_, e⟩ | ⟨_, _, h2⟩
  · rw [e]; decide
  · exact h2
theorem sizeR_right : ∀ l : List V, okR l = true → sizeR l ≤ 49 * l.length
  | [], _ => Nat.le_refl _
  | x :: l, h => by
    have h1 := okR_cons h
    have h2 := right_size5 h1.1
    have h3 := sizeR_right l h1.2
    simp only [sizeR, List.length_cons]
    omega

/-- A Value that was put is got, wherever it stands. -/
theorem val_at {k n : Int} {s : ByteArray} (h : rightV k n s = true) (h0 : -9223372036854775808 ≤ n) (h1 : n ≤ 9223372036854775807) (p r : List UInt8) (pos : Nat) (hp : p.length = pos) (L : List UInt8) (hL : L = p ++ (putV k n s ++ r)) :
    rdVal L 0 pos = ((k, n, s.data.toList), 0, pos + (putV k n s).length) := by
  rcases right_kind h with ⟨rfl, rfl⟩ | ⟨rfl, rfl, hs⟩
  · have e0 : putV 1 n ⟨#[]⟩ = le 1 (low 1) ++ le 8 (low n) := rfl
    have e1 := take_app (x := le 1 (low 1)) (r := le 8 (low n) ++ r) (le_length 1 _) 0 pos p hp L (by rw [hL, e0, List.append_assoc])
    have e2 := take_app (x := le 8 (low n)) (r := r) (le_length 8 _) 0 (pos + 1) (p ++ le 1 (low 1)) (by rw [List.length_append, hp, le_length]) L (by rw [hL, e0]; simp [List.append_assoc])
    have e3 : rdRaw L 0 pos = ((1, n, []), 0, pos + 1 + 8) := by
      unfold rdRaw
      rw [e1]
      simp only [show leVal (le 1 (low 1)) = 1 from rfl, if_true, e2]
      rw [le_val_small 8 _ (low_lt n), low_small h0 h1]
    unfold rdVal
    rw [e3]
    simp [e0, le_length]
  · have hl : s.data.toList.length = s.size := by rw [Array.length_toList]; rfl
    have e0 : putV 2 0 s = le 1 (low 2) ++ (le 2 s.size ++ s.data.toList) := by rw [← hl]; rfl
    have e1 := take_app (x := le 1 (low 2)) (r := (le 2 s.size ++ s.data.toList) ++ r) (le_length 1 _) 0 pos p hp L (by rw [hL, e0, List.append_assoc])
    have e2 := take_app (x := le 2 s.size) (r := s.data.toList ++ r) (le_length 2 _) 0 (pos + 1) (p ++ le 1 (low 2)) (by rw [List.length_append, hp, le_length]) L (by rw [hL, e0]; simp [List.append_assoc])
    have e3 := take_app (x := s.data.toList) (r := r) hl 0 (pos + 1 + 2) (p ++ (le 1 (low 2) ++ le 2 s.size)) (by rw [List.length_append, List.length_append, hp, le_length, le_length]) L (by rw [hL, e0]; simp [List.append_assoc])
    have hv : leVal (le 2 s.size) = s.size := le_val_small 2 _ (by omega)
    have e4 : rdText L 0 (pos + 1) 40 = (s.data.toList, 0, pos + 1 + 2 + s.size) := by
      unfold rdText
      rw [e2]
      simp only [hv, if_neg (show ¬ 40 < s.size by omega)]
      exact e3
    have e5 : rdRaw L 0 pos = ((2, 0, s.data.toList), 0, pos + 1 + 2 + s.size) := by
      unfold rdRaw
      rw [e1]
      simp only [show leVal (le 1 (low 2)) = 2 from rfl, if_neg (show ¬ 2 = 1 by decide), if_true, e4]
    unfold rdVal
    rw [e5]
    simp [e0, le_length, hl]
    omega
theorem rdX_at {x : V} (h : rightVV x = true) (h0 : -9223372036854775808 ≤ x.2.1 ∧ x.2.1 ≤ 9223372036854775807) (p r : List UInt8) (pos : Nat) (hp : p.length = pos) (L : List UInt8) (hL : L = p ++ (putVV x ++ r)) :
    rdX L 0 pos = x ∧ (rdVal L 0 pos).2 = (0, pos + (putVV x).length) := by
  have e := val_at h h0.1 h0.2 p r pos hp L hL
  unfold rdX
  rw [e]
  refine ⟨?_, rfl⟩
  obtain ⟨k, n, s⟩ := x
  simp
theorem loop_back : ∀ (r : List V) (acc : List V) (p t : List UInt8) (pos : Nat) (L : List UInt8), okR r = true → okN r → p.length = pos → L = p ++ (r.flatMap putVV ++ t) →
    rdLoop L r.length acc 0 pos = (acc ++ r, 0, pos + (r.flatMap putVV).length)
  | [], acc, p, t, pos, L, _, _, _, _ => by simp [rdLoop]
  | x :: r, acc, p, t, pos, L, hr, hN, hp, hL => by
    have h1 := okR_cons hr
    have h2 := rdX_at h1.1 (hN x (by simp)) p (r.flatMap putVV ++ t) pos hp L (by rw [hL, List.flatMap_cons, List.append_assoc])
    have ih := loop_back r (acc ++ [x]) (p ++ putVV x) t (pos + (putVV x).length) L h1.2 (fun y hy => hN y (by simp [hy])) (by rw [List.length_append, hp]) (by rw [hL, List.flatMap_cons]; simp [List.append_assoc])
    rw [List.length_cons]
    unfold rdLoop
    rw [h2.1, h2.2, if_pos h1.1, ih]
    simp only [List.flatMap_cons, List.length_append, List.append_assoc, List.singleton_append]
    rw [Nat.add_assoc]
/-- A row that was put is got. -/
theorem row_back {r : List V} (h : rightR r = true) (hN : okN r) : rdRow (putR r) 0 0 = (r, 0, (putR r).length) := by
  have hl := rightR_len h
  have e1 := take_app (x := le 1 (low (r.length : Int))) (r := r.flatMap putVV) (le_length 1 _) 0 0 [] rfl (putR r) rfl
  have hv : leVal (le 1 (low (r.length : Int))) = r.length := by
    have hlow : low (r.length : Int) = r.length := by unfold low; omega
    rw [hlow]
    exact le_val_small 1 _ (by omega)
  have e2 : rdCount (putR r) 0 0 = (r.length, 0, 1) := by
    unfold rdCount
    rw [e1]
    simp only [hv]
    rw [if_neg (fun c => c.2 hl)]
  unfold rdRow
  rw [e2]
  have := loop_back r [] (le 1 (low (r.length : Int))) [] 1 (putR r) (rightR_ok h) hN (le_length 1 _) (by rw [List.append_nil]; rfl)
  simp only at this ⊢
  rw [this]
  unfold putR
  rw [List.length_append, le_length, List.nil_append]
theorem rdEnd_whole (L : List UInt8) : rdEnd L 0 L.length = (0, 0) := by simp [rdEnd]
end Go.Proofs.Ytgiofdmedhhobaa

namespace Go.Proofs.Ytgiofdmedhhobaa
open Go.RowKit
set_option linter.unusedVariables false

theorem flat_get {α : Type} {k : Nat} {enc : α → List Value} (hk : ∀ x, (enc x).length = k) : ∀ (l : List α) (i : Nat) (x : α), l[i]? = some x → ∀ j u, (enc x)[j]? = some u → (l.flatMap enc)[i * k + j]? = some u
  | [], _, _, h, _, _, _ => by simp at h
  | y :: l, 0, x, h, j, u, hu => by
    simp at h
    subst h
    have hj : j < (enc y).length := (List.getElem?_eq_some_iff.1 hu).1
    rw [List.flatMap_cons, Nat.zero_mul, Nat.zero_add, List.getElem?_append_left hj]
    exact hu
  | y :: l, i + 1, x, h, j, u, hu => by
    have e : (i + 1) * k + j - k = i * k + j := by rw [Nat.add_mul, Nat.one_mul]; omega
    rw [List.flatMap_cons, List.getElem?_append_right (by rw [hk, Nat.add_mul]; omega), hk, e]
    exact flat_get hk l i x (by simpa using h) j u hu
/-- A literal slice of structs. -/
theorem Sl.made {α : Type} {k : Nat} {enc : α → List Value} (hk : ∀ x, (enc x).length = k) (l : List α) (n : Nat) (hn : l.length = n) (hm : n ≤ 1000) (w : World) (cs : Array Value) (T : TypeId) (hc : cs = (l.flatMap enc).toArray) :
    Sl k enc (w.alloc (.cells cs T)) (some ⟨w.heap.size, 0, none⟩) n n l :=
  ⟨hn, Nat.le_refl _, by omega, by simp, fun _ => ⟨w.heap.size, 0, rfl, by simp, fun i x hx j u hu => by
    rw [Lib.cell_of_heap (heap_alloc_new w _), hc, List.getElem?_toArray, Nat.zero_add]
    exact flat_get hk l i x hx j u hu⟩⟩
theorem Cs.made (l : List C) (n : Nat) (hn : l.length = n) (hm : n ≤ 1000) (w : World) (cs : Array Value) (hc : cs = (l.flatMap ccells).toArray) : Cs (w.alloc (.cells cs 64)) (some ⟨w.heap.size, 0, none⟩) n n l := Sl.made (enc := ccells) (fun _ => rfl) l n hn hm w cs _ hc
theorem Vs.made (l : List V) (n : Nat) (hn : l.length = n) (hm : n ≤ 1000) (w : World) (cs : Array Value) (hc : cs = (l.flatMap vcells).toArray) : Vs (w.alloc (.cells cs 25)) (some ⟨w.heap.size, 0, none⟩) n n l := Sl.made (enc := vcells) (fun _ => rfl) l n hn hm w cs _ hc

def tcols : List C := [(⟨#[97]⟩, 1), (⟨#[98]⟩, 1), (⟨#[115]⟩, 2)]
theorem keep_t (w : World) : Calls Try.prog 4 #[] w fun e w' => e = .returned (.slice (some ⟨w.heap.size, 0, none⟩) 3 3) ∧ Cs w' (some ⟨w.heap.size, 0, none⟩) 3 3 tcols ∧ Ev w w' := by
  go_enter Try.func4, Try.ntmps4
  go_wp2
  go_ret
  exact ⟨rfl, Cs.made tcols 3 rfl (by decide) w _ rfl, Ev.alloc _ _⟩

theorem small_names {l : List C} (h : (l.all fun y => decide (y.1.size ≤ maxLen)) = true) : ∀ y ∈ l, y.1.size ≤ maxLen := fun y hy => of_decide_eq_true (List.all_eq_true.1 h y hy)
theorem rd_seven : rdRow [7] 0 0 = ([], 3, 0) := by decide +kernel
theorem rdEnd_seven : rdEnd [7] 3 0 = (3, 0) := by decide +kernel
theorem find_b : findC [(⟨#[97]⟩, 1), (⟨#[98]⟩, 1), (⟨#[98]⟩, 2)] ⟨#[98]⟩ = some 1 := by simp [findC, named, List.findIdx?_cons]
theorem find_s : findC tcols ⟨#[115]⟩ = some 2 := by simp [findC, named, tcols, List.findIdx?_cons]
theorem find_x : findC tcols ⟨#[120]⟩ = none := by simp [findC, named, tcols, List.findIdx?_cons]
theorem right_7 : rightR ([1, 2, 3, 4, 5, 6, 7].map numV) = false := by simp [rightR]
theorem right_6 : rightR ([1, 2, 3, 4, 5, 6].map numV) = true := by simp [rightR, okR, rightV, numV]
theorem right_0 : rightR [] = false := rfl
theorem right_z : rightR (List.replicate 7 (0, 0, ⟨#[]⟩)) = false := by simp [rightR]
theorem same_11 : sameR ([1].map numV) ([1].map numV) = true := by simp [sameR, eqL, rightR, okR, rightV, numV]
theorem same_00 : sameR [] [] = false := rfl
theorem make_cols (u : World) : (Instr.makeSlice 22 (.int .i64 7) (.int .i64 7)).run Try.prog u = .ok (.slice (some ⟨u.heap.size, 0, none⟩) 7 7) (u.alloc (.cells #[.string ⟨#[]⟩, .int .i64 0, .string ⟨#[]⟩, .int .i64 0, .string ⟨#[]⟩, .int .i64 0, .string ⟨#[]⟩, .int .i64 0, .string ⟨#[]⟩, .int .i64 0, .string ⟨#[]⟩, .int .i64 0, .string ⟨#[]⟩, .int .i64 0] 64)) := by
  obtain ⟨i0, hi, hz0, hz1, hz2⟩ := info_parts (show (Try.prog.info? 64).map (fun i => (i.zero, i.size, i.bytes)) = some (some (.agg #[.string ⟨#[]⟩, .int .i64 0]), 2, 24) by kernel_rfl)
  have h := run_make (P := Try.prog) u 22 64 i0 _ Try.underlying22 hi hz0 .i64 .i64 7 7 (by omega) (Int.le_refl _) (by rw [hz2]; omega) (by omega)
  rw [hz1, show madeCells (Value.agg #[.string ⟨#[]⟩, .int .i64 0]).cells (Int.toNat 7 * 2) = #[.string ⟨#[]⟩, .int .i64 0, .string ⟨#[]⟩, .int .i64 0, .string ⟨#[]⟩, .int .i64 0, .string ⟨#[]⟩, .int .i64 0, .string ⟨#[]⟩, .int .i64 0, .string ⟨#[]⟩, .int .i64 0, .string ⟨#[]⟩, .int .i64 0] by kernel_rfl] at h
  exact h
theorem make_row (u : World) : (Instr.makeSlice 29 (.int .i64 7) (.int .i64 7)).run Try.prog u = .ok (.slice (some ⟨u.heap.size, 0, none⟩) 7 7) (u.alloc (.cells #[.int .i64 0, .int .i64 0, .string ⟨#[]⟩, .int .i64 0, .int .i64 0, .string ⟨#[]⟩, .int .i64 0, .int .i64 0, .string ⟨#[]⟩, .int .i64 0, .int .i64 0, .string ⟨#[]⟩, .int .i64 0, .int .i64 0, .string ⟨#[]⟩, .int .i64 0, .int .i64 0, .string ⟨#[]⟩, .int .i64 0, .int .i64 0, .string ⟨#[]⟩] 25)) := by
  obtain ⟨i0, hi, hz0, hz1, hz2⟩ := info_parts Try.infoVal
  have h := run_make (P := Try.prog) u 29 25 i0 _ Try.underlying29 hi hz0 .i64 .i64 7 7 (by omega) (Int.le_refl _) (by rw [hz2]; omega) (by omega)
  rw [hz1, show madeCells (Value.agg #[.int .i64 0, .int .i64 0, .string ⟨#[]⟩]).cells (Int.toNat 7 * 3) = #[.int .i64 0, .int .i64 0, .string ⟨#[]⟩, .int .i64 0, .int .i64 0, .string ⟨#[]⟩, .int .i64 0, .int .i64 0, .string ⟨#[]⟩, .int .i64 0, .int .i64 0, .string ⟨#[]⟩, .int .i64 0, .int .i64 0, .string ⟨#[]⟩, .int .i64 0, .int .i64 0, .string ⟨#[]⟩, .int .i64 0, .int .i64 0, .string ⟨#[]⟩] by kernel_rfl] at h
  exact h

theorem find_lit (w : World) : Calls Try.prog 49 #[.slice (some ⟨w.heap.size, 0, none⟩) 3 3, .string ⟨#[98]⟩] (w.alloc (.cells #[.string ⟨#[97]⟩, .int .i64 1, .string ⟨#[98]⟩, .int .i64 1, .string ⟨#[98]⟩, .int .i64 2] 64)) fun e w' => e = .returned (.tuple #[.int .i64 1, .bool true]) ∧ Ev w w' :=
  (row_find ⟨#[98]⟩ _ (Cs.made [(⟨#[97]⟩, 1), (⟨#[98]⟩, 1), (⟨#[98]⟩, 2)] 3 rfl (by decide) w _ rfl)).mono fun e w' ⟨he, hE⟩ => by rw [find_b] at he; exact ⟨he, (Ev.alloc _ _).trans hE⟩
theorem find_t_s (A : Option Addr) (n cap : Nat) (w : World) (h : Cs w A n cap tcols) : Calls Try.prog 49 #[.slice A n cap, .string ⟨#[115]⟩] w fun e w' => e = .returned (.tuple #[.int .i64 2, .bool true]) ∧ Ev w w' :=
  (row_find ⟨#[115]⟩ _ h).mono fun e w' ⟨he, hE⟩ => by rw [find_s] at he; exact ⟨he, hE⟩
theorem find_t_x (A : Option Addr) (n cap : Nat) (w : World) (h : Cs w A n cap tcols) : Calls Try.prog 49 #[.slice A n cap, .string ⟨#[120]⟩] w fun e w' => e = .returned (.tuple #[.int .i64 0, .bool false]) ∧ Ev w w' :=
  (row_find ⟨#[120]⟩ _ h).mono fun e w' ⟨he, hE⟩ => by rw [find_x] at he; exact ⟨he, hE⟩
theorem fits_nil (w : World) : Calls Try.prog 34 #[.slice none 0 0, .slice none 0 0] w fun e w' => e = .returned (.bool true) ∧ Ev w w' :=
  (row_fits w (Sl.nil_ w) (Sl.nil_ w)).mono fun e w' ⟨he, hE⟩ => ⟨he, hE⟩
theorem nums_7 (w : World) : Calls Try.prog 17 #[.slice (some ⟨w.heap.size, 0, none⟩) 7 7] (w.alloc (.cells #[.int .i64 1, .int .i64 2, .int .i64 3, .int .i64 4, .int .i64 5, .int .i64 6, .int .i64 7] 2)) fun e w' => ∃ A m cap, e = .returned (.slice A m cap) ∧ Vs w' A m cap ([1, 2, 3, 4, 5, 6, 7].map numV) ∧ Ev w w' := nums_lit [1, 2, 3, 4, 5, 6, 7] 7 rfl (by decide) w _ rfl
theorem nums_6 (w : World) : Calls Try.prog 17 #[.slice (some ⟨w.heap.size, 0, none⟩) 6 6] (w.alloc (.cells #[.int .i64 1, .int .i64 2, .int .i64 3, .int .i64 4, .int .i64 5, .int .i64 6] 2)) fun e w' => ∃ A m cap, e = .returned (.slice A m cap) ∧ Vs w' A m cap ([1, 2, 3, 4, 5, 6].map numV) ∧ Ev w w' := nums_lit [1, 2, 3, 4, 5, 6] 6 rfl (by decide) w _ rfl
theorem nums_1 (w : World) : Calls Try.prog 17 #[.slice (some ⟨w.heap.size, 0, none⟩) 1 1] (w.alloc (.cells #[.int .i64 1] 2)) fun e w' => ∃ A m cap, e = .returned (.slice A m cap) ∧ Vs w' A m cap ([1].map numV) ∧ Ev w w' := nums_lit [1] 1 rfl (by decide) w _ rfl

end Go.Proofs.Ytgiofdmedhhobaa
