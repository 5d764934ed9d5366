/-
  The contract of row.Columns.
-/
import Derived.Test.YtkjodlngpdihhaaRowL
namespace Go.Proofs.Ytkjodlngpdihhaa
open Go.RowKit
set_option linter.unusedVariables false

theorem Colbox.lt {g : Nat} {s : ByteArray} {k : Int} {w : World} (h : Colbox g s k w) : g < w.heap.size := (Array.getElem?_eq_some_iff.1 h.blk).1

set_option maxRecDepth 100000 in
set_option maxHeartbeats 4000000 in
theorem row_columns {A : Option Addr} {n cap : Nat} {l : List C} (w : World) (h : Cs w A n cap l) :
    Calls Try.prog 7 #[.slice A n cap] w fun e w' => e = .returned (.int .i64 (colsV l)) ∧ Ev w w' := by
  have hn := h.le
  have hm := h.max
  have HN := Lib.hid h.len
  have HC := Lib.hid (fun w1 => row_isCount n w1 (by omega))
  have HG : Hid (colsV l = cond (decide (1 ≤ n) && decide (n ≤ 6)) (colsFrom [] l) 23) := Lib.hid (by unfold colsV; rw [HN.out]; cases (decide (1 ≤ n) && decide (n ≤ 6)) <;> rfl)
  have hmix : Try.prog.follows .mixedOrders = true := by kernel_rfl
  generalize (decide (1 ≤ n) && decide (n ≤ 6)) = c at *
  cases c
  · replace HG : Hid (colsV l = 23) := HG
    go_enter Try.func7, Try.ntmps7
    go_wp2_with (first | ((with_reducible refine (HC.out _).mono ?_); rintro x w1 ⟨rfl, rfl⟩))
    go_ret
    exact ⟨by rw [HG.out]; rfl, Ev.refl _⟩
  · replace HG : Hid (colsV l = colsFrom [] l) := HG
    go_enter Try.func7, Try.ntmps7
    go_wp2_with (first | ((with_reducible refine (HC.out _).mono ?_); rintro x w1 ⟨rfl, rfl⟩))
    go_loopw [13] (fun i wr => ∃ k : Nat, k ≤ n ∧ i = .int .i64 k ∧ Hid (colsFrom [] l = colsFrom (l.take k) (l.drop k)) ∧ Ev w wr) (fun i _ => n - (intOf i).toNat)
    case atStart => exact ⟨0, Nat.zero_le _, rfl, Lib.hid rfl, Ev.refl _⟩
    case round =>
      obtain ⟨k, hk, rfl, HT, hE⟩ := hrel
      by_cases hlt : k < n
      · obtain ⟨b, off, ⟨xs, xk⟩, rfl, hb, hx, c0, c1⟩ := (h.ev hE).ccell hlt
        simp only at c0 c1
        have HF := Lib.hid (HT.out.trans (colsFrom_at hx))
        clear hx
        simp only at HF
        obtain ⟨w0, hw0⟩ : ∃ w0, w0 = wr.alloc (.cells #[.string xs, .int .i64 xk] 23) := ⟨_, rfl⟩
        have B0 : Colbox wr.heap.size xs xk w0 := hw0 ▸ Colbox.new xs xk wr
        have hE0 : Ev wr w0 := hw0 ▸ Ev.alloc wr _
        have HM := fun w1 => row_name xs w1
        generalize nameV xs = nm at *
        cases nm
        · have HM := Lib.hid HM
          replace HF : Hid (colsFrom [] l = 20) := Lib.hid (by rw [HF.out]; rfl)
          go_wp2_with (first | (rw [← hw0]; (with_reducible refine (HM.out _).mono ?_); rintro x w1 ⟨rfl, hE1⟩))
          go_ret
          exact ⟨by rw [HG.out, HF.out]; rfl, (hE.trans hE0).trans hE1⟩
        · by_cases hkk : xk = 1 ∨ xk = 2
          · have hf := HF.out
            rw [if_neg (by rcases hkk with rfl | rfl <;> simp)] at hf
            have h1 := (h.ev (hE.trans hE0)).to k hk
            have HD := fun w1 (hE1 : Ev w0 w1) => row_find xs w1 (h1.ev hE1)
            obtain ⟨fo, hfo⟩ : ∃ fo, foundAt (findC (l.take k) xs) = fo := ⟨_, rfl⟩
            obtain ⟨tk, htk⟩ : ∃ tk, (findC (l.take k) xs).isSome = tk := ⟨_, rfl⟩
            rw [hfo, htk] at HD
            rw [htk] at hf
            have HM := Lib.hid HM
            clear hfo htk h1
            rcases hkk with rfl | rfl
            · have hkc : k ≤ cap := by omega
              cases tk
              · have HF2 : Hid (colsFrom [] l = colsFrom (l.take (k + 1)) (l.drop (k + 1))) := Lib.hid (by rw [hf]; rfl)
                clear hf
                go_wp2_with (first | (rw [← hw0]; (with_reducible refine (HM.out _).mono ?_); rintro x w1 ⟨rfl, hE1⟩; have B1 := B0.ev hE1; have c0 := B1.c0; have c1 := B1.c1))
                obtain ⟨g, hg⟩ : ∃ g, g = wr.heap.size := ⟨_, rfl⟩
                rw [← hg] at B1 ⊢
                refine wp_region_slots hmix [fun v _ => v = .slice (some ⟨b, off, none⟩) n cap, fun v _ => v = .int .i64 (k : Int), fun v _ => v = .slice (some ⟨b, off, none⟩) k cap, fun v _ => v = .pointer (some ⟨g, 0, none⟩), fun v _ => v = .string xs, fun v _ => v = .tuple #[.int .i64 fo, .bool false], fun v _ => v = .tuple #[.int .i64 fo, .bool false], fun v _ => v = .int .i64 fo, fun v _ => v = .bool false, fun v _ => v = .int .i64 fo, fun v _ => v = .bool false]
                  43 rfl (by kernel_rfl) ⟨mono_eq _, mono_eq _, mono_eq _, mono_eq _, mono_eq _, mono_eq _, mono_eq _, mono_eq _, mono_eq _, mono_eq _, mono_eq _, trivial⟩ ?_ ?_
                · refine ops_cons 0 ?_ (ops_cons 1 ?_ (ops_cons 2 ?_ (ops_cons 3 ?_ (ops_cons 4 ?_ (ops_cons 5 ?_ (ops_cons 6 ?_ (ops_cons 7 ?_ (ops_cons 8 ?_ (ops_cons 9 ?_ (ops_cons 10 ?_ (ops_nil 11)))))))))))
                  · refine op_value fun a w c => ⟨(wanted_plain rfl), _, run_move _ rfl w, (c.was 0 (by kernel_rfl) rfl)⟩
                  · refine op_value fun a w c => ⟨(wanted_plain rfl), _, run_move _ rfl w, (c.was 3 (by kernel_rfl) rfl)⟩
                  · refine op_value fun a w c => ⟨(wanted_plain rfl), _, run_to_cols k rfl ((c.new 0 33 (by kernel_rfl) (by kernel_rfl)) : a.eval (.tmp 33) = .slice (some ⟨b, off, none⟩) n cap) ((c.new 1 34 (by kernel_rfl) (by kernel_rfl)) : a.eval (.tmp 34) = .int .i64 (k : Int)) hkc w, rfl⟩
                  · refine op_value fun a w c => ⟨(wanted_plain rfl), .pointer (some ⟨g, 0, none⟩), ?_, rfl⟩
                    have e4 : a.eval (.tmp 4) = .pointer (some ⟨g, 0, none⟩) := (c.was 4 (by kernel_rfl) rfl)
                    generalize a.eval = ρ at e4 ⊢
                    simp [execOp, e4, go_sem]
                  · refine op_value fun a w c => ⟨(wanted_plain rfl), .string xs, ?_, rfl⟩
                    have e36 : a.eval (.tmp 36) = .pointer (some ⟨g, 0, none⟩) := (c.new 3 36 (by kernel_rfl) (by kernel_rfl))
                    have hc := (c.ev.cell (p := ⟨_, _, none⟩) B1.lt).trans B1.c0
                    generalize a.eval = ρ at e36 ⊢
                    simp [execOp, e36, hc, go_sem]
                  · refine op_call fun a w c => ⟨(wanted_plain rfl), 14, #[.slice (some ⟨b, off, none⟩) k cap, .string xs], ?_, ?_⟩
                    · rw [run_call 14 _ _ rfl (by kernel_rfl)]
                      have e35 : a.eval (.tmp 35) = .slice (some ⟨b, off, none⟩) k cap := (c.new 2 35 (by kernel_rfl) (by kernel_rfl))
                      have e37 : a.eval (.tmp 37) = .string xs := (c.new 4 37 (by kernel_rfl) (by kernel_rfl))
                      simp [e35, e37]
                    · refine (HD w (hE1.trans c.ev)).mono ?_
                      rintro e w2 ⟨rfl, hE⟩
                      exact ⟨_, rfl, hE, rfl⟩
                  · refine op_value fun a w c => ⟨(wanted_plain rfl), _, run_move _ rfl w, (c.new 5 38 (by kernel_rfl) (by kernel_rfl))⟩
                  · refine op_value fun a w c => ⟨(wanted_plain rfl), .int .i64 fo, ?_, rfl⟩
                    have e32 : a.eval (.tmp 32) = .tuple #[.int .i64 fo, .bool false] := (c.new 6 32 (by kernel_rfl) (by kernel_rfl))
                    generalize a.eval = ρ at e32 ⊢
                    simp [execOp, e32, go_sem]
                  · refine op_value fun a w c => ⟨(wanted_plain rfl), .bool false, ?_, rfl⟩
                    have e32 : a.eval (.tmp 32) = .tuple #[.int .i64 fo, .bool false] := (c.new 6 32 (by kernel_rfl) (by kernel_rfl))
                    generalize a.eval = ρ at e32 ⊢
                    simp [execOp, e32, go_sem]
                  · refine op_value fun a w c => ⟨(wanted_plain rfl), _, run_assign _ rfl w, (c.new 7 39 (by kernel_rfl) (by kernel_rfl))⟩
                  · refine op_value fun a w c => ⟨(wanted_plain rfl), _, run_assign _ rfl w, (c.new 8 40 (by kernel_rfl) (by kernel_rfl))⟩
                intro s w4 hEr hold hnew
                have f0 : s 0 = .slice (some ⟨b, off, none⟩) n cap := hold 0 (by kernel_rfl)
                have f1 : s 1 = undef := hold 1 (by kernel_rfl)
                have f3 : s 3 = .int .i64 (k : Int) := hold 3 (by kernel_rfl)
                have f4 : s 4 = .pointer (some ⟨g, 0, none⟩) := hold 4 (by kernel_rfl)
                have f7 : s 7 = .slice (some ⟨b, off, none⟩) n cap := hold 7 (by kernel_rfl)
                have f8 : s 8 = .int .i64 (n : Int) := hold 8 (by kernel_rfl)
                have f9 : s 9 = .bool true := hold 9 (by kernel_rfl)
                have f10 : s 10 = .bool false := hold 10 (by kernel_rfl)
                have f11 : s 11 = .slice (some ⟨b, off, none⟩) n cap := hold 11 (by kernel_rfl)
                have f12 : s 12 = .int .i64 (n : Int) := hold 12 (by kernel_rfl)
                have f13 : s 13 = .int .i64 (k : Int) := hold 13 (by kernel_rfl)
                have f5 : s 5 = .int .i64 fo := hnew 9 5 (by kernel_rfl)
                have f6 : s 6 = .bool false := hnew 10 6 (by kernel_rfl)
                have f32 : s 32 = .tuple #[.int .i64 fo, .bool false] := hnew 6 32 (by kernel_rfl)
                have f33 : s 33 = .slice (some ⟨b, off, none⟩) n cap := hnew 0 33 (by kernel_rfl)
                have f34 : s 34 = .int .i64 (k : Int) := hnew 1 34 (by kernel_rfl)
                have f35 : s 35 = .slice (some ⟨b, off, none⟩) k cap := hnew 2 35 (by kernel_rfl)
                have f36 : s 36 = .pointer (some ⟨g, 0, none⟩) := hnew 3 36 (by kernel_rfl)
                have f37 : s 37 = .string xs := hnew 4 37 (by kernel_rfl)
                have f38 : s 38 = .tuple #[.int .i64 fo, .bool false] := hnew 5 38 (by kernel_rfl)
                have f39 : s 39 = .int .i64 fo := hnew 7 39 (by kernel_rfl)
                have f40 : s 40 = .bool false := hnew 8 40 (by kernel_rfl)
                change Exit.then _ _ .normal ⟨#[s 0, s 1, s 2, s 3, s 4, s 5, s 6, s 7, s 8, s 9, s 10, s 11, s 12, s 13, s 14, s 15, s 16, s 17, s 18, s 19, s 20, s 21, s 22, s 23, s 24, s 25, s 26, s 27, s 28, s 29, s 30, s 31, s 32, s 33, s 34, s 35, s 36, s 37, s 38, s 39, s 40, s 41, s 42], _⟩ _
                simp only [f0, f1, f3, f4, f7, f8, f9, f10, f11, f12, f13, f5, f6, f32, f33, f34, f35, f36, f37, f38, f39, f40]
                clear hold hnew
                generalize s 2 = u2
                generalize s 14 = u14
                generalize s 15 = u15
                generalize s 16 = u16
                generalize s 17 = u17
                generalize s 18 = u18
                generalize s 19 = u19
                generalize s 20 = u20
                generalize s 21 = u21
                generalize s 22 = u22
                generalize s 23 = u23
                generalize s 24 = u24
                generalize s 25 = u25
                generalize s 26 = u26
                generalize s 27 = u27
                generalize s 28 = u28
                generalize s 29 = u29
                generalize s 30 = u30
                generalize s 31 = u31
                generalize s 41 = u41
                generalize s 42 = u42
                go_wp2
                go_roundw
                case rel => exact ⟨k + 1, by omega, by go_num, HF2, ((hE.trans hE0).trans hE1).trans hEr⟩
                case measure => simp [intOf]; omega
              · have HF2 : Hid (colsFrom [] l = 21) := Lib.hid (by rw [hf]; rfl)
                clear hf
                go_wp2_with (first | (rw [← hw0]; (with_reducible refine (HM.out _).mono ?_); rintro x w1 ⟨rfl, hE1⟩; have B1 := B0.ev hE1; have c0 := B1.c0; have c1 := B1.c1))
                obtain ⟨g, hg⟩ : ∃ g, g = wr.heap.size := ⟨_, rfl⟩
                rw [← hg] at B1 ⊢
                refine wp_region_slots hmix [fun v _ => v = .slice (some ⟨b, off, none⟩) n cap, fun v _ => v = .int .i64 (k : Int), fun v _ => v = .slice (some ⟨b, off, none⟩) k cap, fun v _ => v = .pointer (some ⟨g, 0, none⟩), fun v _ => v = .string xs, fun v _ => v = .tuple #[.int .i64 fo, .bool true], fun v _ => v = .tuple #[.int .i64 fo, .bool true], fun v _ => v = .int .i64 fo, fun v _ => v = .bool true, fun v _ => v = .int .i64 fo, fun v _ => v = .bool true]
                  43 rfl (by kernel_rfl) ⟨mono_eq _, mono_eq _, mono_eq _, mono_eq _, mono_eq _, mono_eq _, mono_eq _, mono_eq _, mono_eq _, mono_eq _, mono_eq _, trivial⟩ ?_ ?_
                · refine ops_cons 0 ?_ (ops_cons 1 ?_ (ops_cons 2 ?_ (ops_cons 3 ?_ (ops_cons 4 ?_ (ops_cons 5 ?_ (ops_cons 6 ?_ (ops_cons 7 ?_ (ops_cons 8 ?_ (ops_cons 9 ?_ (ops_cons 10 ?_ (ops_nil 11)))))))))))
                  · refine op_value fun a w c => ⟨(wanted_plain rfl), _, run_move _ rfl w, (c.was 0 (by kernel_rfl) rfl)⟩
                  · refine op_value fun a w c => ⟨(wanted_plain rfl), _, run_move _ rfl w, (c.was 3 (by kernel_rfl) rfl)⟩
                  · refine op_value fun a w c => ⟨(wanted_plain rfl), _, run_to_cols k rfl ((c.new 0 33 (by kernel_rfl) (by kernel_rfl)) : a.eval (.tmp 33) = .slice (some ⟨b, off, none⟩) n cap) ((c.new 1 34 (by kernel_rfl) (by kernel_rfl)) : a.eval (.tmp 34) = .int .i64 (k : Int)) hkc w, rfl⟩
                  · refine op_value fun a w c => ⟨(wanted_plain rfl), .pointer (some ⟨g, 0, none⟩), ?_, rfl⟩
                    have e4 : a.eval (.tmp 4) = .pointer (some ⟨g, 0, none⟩) := (c.was 4 (by kernel_rfl) rfl)
                    generalize a.eval = ρ at e4 ⊢
                    simp [execOp, e4, go_sem]
                  · refine op_value fun a w c => ⟨(wanted_plain rfl), .string xs, ?_, rfl⟩
                    have e36 : a.eval (.tmp 36) = .pointer (some ⟨g, 0, none⟩) := (c.new 3 36 (by kernel_rfl) (by kernel_rfl))
                    have hc := (c.ev.cell (p := ⟨_, _, none⟩) B1.lt).trans B1.c0
                    generalize a.eval = ρ at e36 ⊢
                    simp [execOp, e36, hc, go_sem]
                  · refine op_call fun a w c => ⟨(wanted_plain rfl), 14, #[.slice (some ⟨b, off, none⟩) k cap, .string xs], ?_, ?_⟩
                    · rw [run_call 14 _ _ rfl (by kernel_rfl)]
                      have e35 : a.eval (.tmp 35) = .slice (some ⟨b, off, none⟩) k cap := (c.new 2 35 (by kernel_rfl) (by kernel_rfl))
                      have e37 : a.eval (.tmp 37) = .string xs := (c.new 4 37 (by kernel_rfl) (by kernel_rfl))
                      simp [e35, e37]
                    · refine (HD w (hE1.trans c.ev)).mono ?_
                      rintro e w2 ⟨rfl, hE⟩
                      exact ⟨_, rfl, hE, rfl⟩
                  · refine op_value fun a w c => ⟨(wanted_plain rfl), _, run_move _ rfl w, (c.new 5 38 (by kernel_rfl) (by kernel_rfl))⟩
                  · refine op_value fun a w c => ⟨(wanted_plain rfl), .int .i64 fo, ?_, rfl⟩
                    have e32 : a.eval (.tmp 32) = .tuple #[.int .i64 fo, .bool true] := (c.new 6 32 (by kernel_rfl) (by kernel_rfl))
                    generalize a.eval = ρ at e32 ⊢
                    simp [execOp, e32, go_sem]
                  · refine op_value fun a w c => ⟨(wanted_plain rfl), .bool true, ?_, rfl⟩
                    have e32 : a.eval (.tmp 32) = .tuple #[.int .i64 fo, .bool true] := (c.new 6 32 (by kernel_rfl) (by kernel_rfl))
                    generalize a.eval = ρ at e32 ⊢
                    simp [execOp, e32, go_sem]
                  · refine op_value fun a w c => ⟨(wanted_plain rfl), _, run_assign _ rfl w, (c.new 7 39 (by kernel_rfl) (by kernel_rfl))⟩
                  · refine op_value fun a w c => ⟨(wanted_plain rfl), _, run_assign _ rfl w, (c.new 8 40 (by kernel_rfl) (by kernel_rfl))⟩
                intro s w4 hEr hold hnew
                have f0 : s 0 = .slice (some ⟨b, off, none⟩) n cap := hold 0 (by kernel_rfl)
                have f1 : s 1 = undef := hold 1 (by kernel_rfl)
                have f3 : s 3 = .int .i64 (k : Int) := hold 3 (by kernel_rfl)
                have f4 : s 4 = .pointer (some ⟨g, 0, none⟩) := hold 4 (by kernel_rfl)
                have f7 : s 7 = .slice (some ⟨b, off, none⟩) n cap := hold 7 (by kernel_rfl)
                have f8 : s 8 = .int .i64 (n : Int) := hold 8 (by kernel_rfl)
                have f9 : s 9 = .bool true := hold 9 (by kernel_rfl)
                have f10 : s 10 = .bool false := hold 10 (by kernel_rfl)
                have f11 : s 11 = .slice (some ⟨b, off, none⟩) n cap := hold 11 (by kernel_rfl)
                have f12 : s 12 = .int .i64 (n : Int) := hold 12 (by kernel_rfl)
                have f13 : s 13 = .int .i64 (k : Int) := hold 13 (by kernel_rfl)
                have f5 : s 5 = .int .i64 fo := hnew 9 5 (by kernel_rfl)
                have f6 : s 6 = .bool true := hnew 10 6 (by kernel_rfl)
                have f32 : s 32 = .tuple #[.int .i64 fo, .bool true] := hnew 6 32 (by kernel_rfl)
                have f33 : s 33 = .slice (some ⟨b, off, none⟩) n cap := hnew 0 33 (by kernel_rfl)
                have f34 : s 34 = .int .i64 (k : Int) := hnew 1 34 (by kernel_rfl)
                have f35 : s 35 = .slice (some ⟨b, off, none⟩) k cap := hnew 2 35 (by kernel_rfl)
                have f36 : s 36 = .pointer (some ⟨g, 0, none⟩) := hnew 3 36 (by kernel_rfl)
                have f37 : s 37 = .string xs := hnew 4 37 (by kernel_rfl)
                have f38 : s 38 = .tuple #[.int .i64 fo, .bool true] := hnew 5 38 (by kernel_rfl)
                have f39 : s 39 = .int .i64 fo := hnew 7 39 (by kernel_rfl)
                have f40 : s 40 = .bool true := hnew 8 40 (by kernel_rfl)
                change Exit.then _ _ .normal ⟨#[s 0, s 1, s 2, s 3, s 4, s 5, s 6, s 7, s 8, s 9, s 10, s 11, s 12, s 13, s 14, s 15, s 16, s 17, s 18, s 19, s 20, s 21, s 22, s 23, s 24, s 25, s 26, s 27, s 28, s 29, s 30, s 31, s 32, s 33, s 34, s 35, s 36, s 37, s 38, s 39, s 40, s 41, s 42], _⟩ _
                simp only [f0, f1, f3, f4, f7, f8, f9, f10, f11, f12, f13, f5, f6, f32, f33, f34, f35, f36, f37, f38, f39, f40]
                clear hold hnew
                go_wp2
                go_ret
                exact ⟨by rw [HG.out, HF2.out]; rfl, ((hE.trans hE0).trans hE1).trans hEr⟩
            · have hkc : k ≤ cap := by omega
              cases tk
              · have HF2 : Hid (colsFrom [] l = colsFrom (l.take (k + 1)) (l.drop (k + 1))) := Lib.hid (by rw [hf]; rfl)
                clear hf
                go_wp2_with (first | (rw [← hw0]; (with_reducible refine (HM.out _).mono ?_); rintro x w1 ⟨rfl, hE1⟩; have B1 := B0.ev hE1; have c0 := B1.c0; have c1 := B1.c1))
                obtain ⟨g, hg⟩ : ∃ g, g = wr.heap.size := ⟨_, rfl⟩
                rw [← hg] at B1 ⊢
                refine wp_region_slots hmix [fun v _ => v = .slice (some ⟨b, off, none⟩) n cap, fun v _ => v = .int .i64 (k : Int), fun v _ => v = .slice (some ⟨b, off, none⟩) k cap, fun v _ => v = .pointer (some ⟨g, 0, none⟩), fun v _ => v = .string xs, fun v _ => v = .tuple #[.int .i64 fo, .bool false], fun v _ => v = .tuple #[.int .i64 fo, .bool false], fun v _ => v = .int .i64 fo, fun v _ => v = .bool false, fun v _ => v = .int .i64 fo, fun v _ => v = .bool false]
                  43 rfl (by kernel_rfl) ⟨mono_eq _, mono_eq _, mono_eq _, mono_eq _, mono_eq _, mono_eq _, mono_eq _, mono_eq _, mono_eq _, mono_eq _, mono_eq _, trivial⟩ ?_ ?_
                · refine ops_cons 0 ?_ (ops_cons 1 ?_ (ops_cons 2 ?_ (ops_cons 3 ?_ (ops_cons 4 ?_ (ops_cons 5 ?_ (ops_cons 6 ?_ (ops_cons 7 ?_ (ops_cons 8 ?_ (ops_cons 9 ?_ (ops_cons 10 ?_ (ops_nil 11)))))))))))
                  · refine op_value fun a w c => ⟨(wanted_plain rfl), _, run_move _ rfl w, (c.was 0 (by kernel_rfl) rfl)⟩
                  · refine op_value fun a w c => ⟨(wanted_plain rfl), _, run_move _ rfl w, (c.was 3 (by kernel_rfl) rfl)⟩
                  · refine op_value fun a w c => ⟨(wanted_plain rfl), _, run_to_cols k rfl ((c.new 0 33 (by kernel_rfl) (by kernel_rfl)) : a.eval (.tmp 33) = .slice (some ⟨b, off, none⟩) n cap) ((c.new 1 34 (by kernel_rfl) (by kernel_rfl)) : a.eval (.tmp 34) = .int .i64 (k : Int)) hkc w, rfl⟩
                  · refine op_value fun a w c => ⟨(wanted_plain rfl), .pointer (some ⟨g, 0, none⟩), ?_, rfl⟩
                    have e4 : a.eval (.tmp 4) = .pointer (some ⟨g, 0, none⟩) := (c.was 4 (by kernel_rfl) rfl)
                    generalize a.eval = ρ at e4 ⊢
                    simp [execOp, e4, go_sem]
                  · refine op_value fun a w c => ⟨(wanted_plain rfl), .string xs, ?_, rfl⟩
                    have e36 : a.eval (.tmp 36) = .pointer (some ⟨g, 0, none⟩) := (c.new 3 36 (by kernel_rfl) (by kernel_rfl))
                    have hc := (c.ev.cell (p := ⟨_, _, none⟩) B1.lt).trans B1.c0
                    generalize a.eval = ρ at e36 ⊢
                    simp [execOp, e36, hc, go_sem]
                  · refine op_call fun a w c => ⟨(wanted_plain rfl), 14, #[.slice (some ⟨b, off, none⟩) k cap, .string xs], ?_, ?_⟩
                    · rw [run_call 14 _ _ rfl (by kernel_rfl)]
                      have e35 : a.eval (.tmp 35) = .slice (some ⟨b, off, none⟩) k cap := (c.new 2 35 (by kernel_rfl) (by kernel_rfl))
                      have e37 : a.eval (.tmp 37) = .string xs := (c.new 4 37 (by kernel_rfl) (by kernel_rfl))
                      simp [e35, e37]
                    · refine (HD w (hE1.trans c.ev)).mono ?_
                      rintro e w2 ⟨rfl, hE⟩
                      exact ⟨_, rfl, hE, rfl⟩
                  · refine op_value fun a w c => ⟨(wanted_plain rfl), _, run_move _ rfl w, (c.new 5 38 (by kernel_rfl) (by kernel_rfl))⟩
                  · refine op_value fun a w c => ⟨(wanted_plain rfl), .int .i64 fo, ?_, rfl⟩
                    have e32 : a.eval (.tmp 32) = .tuple #[.int .i64 fo, .bool false] := (c.new 6 32 (by kernel_rfl) (by kernel_rfl))
                    generalize a.eval = ρ at e32 ⊢
                    simp [execOp, e32, go_sem]
                  · refine op_value fun a w c => ⟨(wanted_plain rfl), .bool false, ?_, rfl⟩
                    have e32 : a.eval (.tmp 32) = .tuple #[.int .i64 fo, .bool false] := (c.new 6 32 (by kernel_rfl) (by kernel_rfl))
                    generalize a.eval = ρ at e32 ⊢
                    simp [execOp, e32, go_sem]
                  · refine op_value fun a w c => ⟨(wanted_plain rfl), _, run_assign _ rfl w, (c.new 7 39 (by kernel_rfl) (by kernel_rfl))⟩
                  · refine op_value fun a w c => ⟨(wanted_plain rfl), _, run_assign _ rfl w, (c.new 8 40 (by kernel_rfl) (by kernel_rfl))⟩
                intro s w4 hEr hold hnew
                have f0 : s 0 = .slice (some ⟨b, off, none⟩) n cap := hold 0 (by kernel_rfl)
                have f1 : s 1 = undef := hold 1 (by kernel_rfl)
                have f3 : s 3 = .int .i64 (k : Int) := hold 3 (by kernel_rfl)
                have f4 : s 4 = .pointer (some ⟨g, 0, none⟩) := hold 4 (by kernel_rfl)
                have f7 : s 7 = .slice (some ⟨b, off, none⟩) n cap := hold 7 (by kernel_rfl)
                have f8 : s 8 = .int .i64 (n : Int) := hold 8 (by kernel_rfl)
                have f9 : s 9 = .bool true := hold 9 (by kernel_rfl)
                have f10 : s 10 = .bool false := hold 10 (by kernel_rfl)
                have f11 : s 11 = .slice (some ⟨b, off, none⟩) n cap := hold 11 (by kernel_rfl)
                have f12 : s 12 = .int .i64 (n : Int) := hold 12 (by kernel_rfl)
                have f13 : s 13 = .int .i64 (k : Int) := hold 13 (by kernel_rfl)
                have f5 : s 5 = .int .i64 fo := hnew 9 5 (by kernel_rfl)
                have f6 : s 6 = .bool false := hnew 10 6 (by kernel_rfl)
                have f32 : s 32 = .tuple #[.int .i64 fo, .bool false] := hnew 6 32 (by kernel_rfl)
                have f33 : s 33 = .slice (some ⟨b, off, none⟩) n cap := hnew 0 33 (by kernel_rfl)
                have f34 : s 34 = .int .i64 (k : Int) := hnew 1 34 (by kernel_rfl)
                have f35 : s 35 = .slice (some ⟨b, off, none⟩) k cap := hnew 2 35 (by kernel_rfl)
                have f36 : s 36 = .pointer (some ⟨g, 0, none⟩) := hnew 3 36 (by kernel_rfl)
                have f37 : s 37 = .string xs := hnew 4 37 (by kernel_rfl)
                have f38 : s 38 = .tuple #[.int .i64 fo, .bool false] := hnew 5 38 (by kernel_rfl)
                have f39 : s 39 = .int .i64 fo := hnew 7 39 (by kernel_rfl)
                have f40 : s 40 = .bool false := hnew 8 40 (by kernel_rfl)
                change Exit.then _ _ .normal ⟨#[s 0, s 1, s 2, s 3, s 4, s 5, s 6, s 7, s 8, s 9, s 10, s 11, s 12, s 13, s 14, s 15, s 16, s 17, s 18, s 19, s 20, s 21, s 22, s 23, s 24, s 25, s 26, s 27, s 28, s 29, s 30, s 31, s 32, s 33, s 34, s 35, s 36, s 37, s 38, s 39, s 40, s 41, s 42], _⟩ _
                simp only [f0, f1, f3, f4, f7, f8, f9, f10, f11, f12, f13, f5, f6, f32, f33, f34, f35, f36, f37, f38, f39, f40]
                clear hold hnew
                generalize s 2 = u2
                generalize s 14 = u14
                generalize s 15 = u15
                generalize s 16 = u16
                generalize s 17 = u17
                generalize s 18 = u18
                generalize s 19 = u19
                generalize s 20 = u20
                generalize s 21 = u21
                generalize s 22 = u22
                generalize s 23 = u23
                generalize s 24 = u24
                generalize s 25 = u25
                generalize s 26 = u26
                generalize s 27 = u27
                generalize s 28 = u28
                generalize s 29 = u29
                generalize s 30 = u30
                generalize s 31 = u31
                generalize s 41 = u41
                generalize s 42 = u42
                go_wp2
                go_roundw
                case rel => exact ⟨k + 1, by omega, by go_num, HF2, ((hE.trans hE0).trans hE1).trans hEr⟩
                case measure => simp [intOf]; omega
              · have HF2 : Hid (colsFrom [] l = 21) := Lib.hid (by rw [hf]; rfl)
                clear hf
                go_wp2_with (first | (rw [← hw0]; (with_reducible refine (HM.out _).mono ?_); rintro x w1 ⟨rfl, hE1⟩; have B1 := B0.ev hE1; have c0 := B1.c0; have c1 := B1.c1))
                obtain ⟨g, hg⟩ : ∃ g, g = wr.heap.size := ⟨_, rfl⟩
                rw [← hg] at B1 ⊢
                refine wp_region_slots hmix [fun v _ => v = .slice (some ⟨b, off, none⟩) n cap, fun v _ => v = .int .i64 (k : Int), fun v _ => v = .slice (some ⟨b, off, none⟩) k cap, fun v _ => v = .pointer (some ⟨g, 0, none⟩), fun v _ => v = .string xs, fun v _ => v = .tuple #[.int .i64 fo, .bool true], fun v _ => v = .tuple #[.int .i64 fo, .bool true], fun v _ => v = .int .i64 fo, fun v _ => v = .bool true, fun v _ => v = .int .i64 fo, fun v _ => v = .bool true]
                  43 rfl (by kernel_rfl) ⟨mono_eq _, mono_eq _, mono_eq _, mono_eq _, mono_eq _, mono_eq _, mono_eq _, mono_eq _, mono_eq _, mono_eq _, mono_eq _, trivial⟩ ?_ ?_
                · refine ops_cons 0 ?_ (ops_cons 1 ?_ (ops_cons 2 ?_ (ops_cons 3 ?_ (ops_cons 4 ?_ (ops_cons 5 ?_ (ops_cons 6 ?_ (ops_cons 7 ?_ (ops_cons 8 ?_ (ops_cons 9 ?_ (ops_cons 10 ?_ (ops_nil 11)))))))))))
                  · refine op_value fun a w c => ⟨(wanted_plain rfl), _, run_move _ rfl w, (c.was 0 (by kernel_rfl) rfl)⟩
                  · refine op_value fun a w c => ⟨(wanted_plain rfl), _, run_move _ rfl w, (c.was 3 (by kernel_rfl) rfl)⟩
                  · refine op_value fun a w c => ⟨(wanted_plain rfl), _, run_to_cols k rfl ((c.new 0 33 (by kernel_rfl) (by kernel_rfl)) : a.eval (.tmp 33) = .slice (some ⟨b, off, none⟩) n cap) ((c.new 1 34 (by kernel_rfl) (by kernel_rfl)) : a.eval (.tmp 34) = .int .i64 (k : Int)) hkc w, rfl⟩
                  · refine op_value fun a w c => ⟨(wanted_plain rfl), .pointer (some ⟨g, 0, none⟩), ?_, rfl⟩
                    have e4 : a.eval (.tmp 4) = .pointer (some ⟨g, 0, none⟩) := (c.was 4 (by kernel_rfl) rfl)
                    generalize a.eval = ρ at e4 ⊢
                    simp [execOp, e4, go_sem]
                  · refine op_value fun a w c => ⟨(wanted_plain rfl), .string xs, ?_, rfl⟩
                    have e36 : a.eval (.tmp 36) = .pointer (some ⟨g, 0, none⟩) := (c.new 3 36 (by kernel_rfl) (by kernel_rfl))
                    have hc := (c.ev.cell (p := ⟨_, _, none⟩) B1.lt).trans B1.c0
                    generalize a.eval = ρ at e36 ⊢
                    simp [execOp, e36, hc, go_sem]
                  · refine op_call fun a w c => ⟨(wanted_plain rfl), 14, #[.slice (some ⟨b, off, none⟩) k cap, .string xs], ?_, ?_⟩
                    · rw [run_call 14 _ _ rfl (by kernel_rfl)]
                      have e35 : a.eval (.tmp 35) = .slice (some ⟨b, off, none⟩) k cap := (c.new 2 35 (by kernel_rfl) (by kernel_rfl))
                      have e37 : a.eval (.tmp 37) = .string xs := (c.new 4 37 (by kernel_rfl) (by kernel_rfl))
                      simp [e35, e37]
                    · refine (HD w (hE1.trans c.ev)).mono ?_
                      rintro e w2 ⟨rfl, hE⟩
                      exact ⟨_, rfl, hE, rfl⟩
                  · refine op_value fun a w c => ⟨(wanted_plain rfl), _, run_move _ rfl w, (c.new 5 38 (by kernel_rfl) (by kernel_rfl))⟩
                  · refine op_value fun a w c => ⟨(wanted_plain rfl), .int .i64 fo, ?_, rfl⟩
                    have e32 : a.eval (.tmp 32) = .tuple #[.int .i64 fo, .bool true] := (c.new 6 32 (by kernel_rfl) (by kernel_rfl))
                    generalize a.eval = ρ at e32 ⊢
                    simp [execOp, e32, go_sem]
                  · refine op_value fun a w c => ⟨(wanted_plain rfl), .bool true, ?_, rfl⟩
                    have e32 : a.eval (.tmp 32) = .tuple #[.int .i64 fo, .bool true] := (c.new 6 32 (by kernel_rfl) (by kernel_rfl))
                    generalize a.eval = ρ at e32 ⊢
                    simp [execOp, e32, go_sem]
                  · refine op_value fun a w c => ⟨(wanted_plain rfl), _, run_assign _ rfl w, (c.new 7 39 (by kernel_rfl) (by kernel_rfl))⟩
                  · refine op_value fun a w c => ⟨(wanted_plain rfl), _, run_assign _ rfl w, (c.new 8 40 (by kernel_rfl) (by kernel_rfl))⟩
                intro s w4 hEr hold hnew
                have f0 : s 0 = .slice (some ⟨b, off, none⟩) n cap := hold 0 (by kernel_rfl)
                have f1 : s 1 = undef := hold 1 (by kernel_rfl)
                have f3 : s 3 = .int .i64 (k : Int) := hold 3 (by kernel_rfl)
                have f4 : s 4 = .pointer (some ⟨g, 0, none⟩) := hold 4 (by kernel_rfl)
                have f7 : s 7 = .slice (some ⟨b, off, none⟩) n cap := hold 7 (by kernel_rfl)
                have f8 : s 8 = .int .i64 (n : Int) := hold 8 (by kernel_rfl)
                have f9 : s 9 = .bool true := hold 9 (by kernel_rfl)
                have f10 : s 10 = .bool false := hold 10 (by kernel_rfl)
                have f11 : s 11 = .slice (some ⟨b, off, none⟩) n cap := hold 11 (by kernel_rfl)
                have f12 : s 12 = .int .i64 (n : Int) := hold 12 (by kernel_rfl)
                have f13 : s 13 = .int .i64 (k : Int) := hold 13 (by kernel_rfl)
                have f5 : s 5 = .int .i64 fo := hnew 9 5 (by kernel_rfl)
                have f6 : s 6 = .bool true := hnew 10 6 (by kernel_rfl)
                have f32 : s 32 = .tuple #[.int .i64 fo, .bool true] := hnew 6 32 (by kernel_rfl)
                have f33 : s 33 = .slice (some ⟨b, off, none⟩) n cap := hnew 0 33 (by kernel_rfl)
                have f34 : s 34 = .int .i64 (k : Int) := hnew 1 34 (by kernel_rfl)
                have f35 : s 35 = .slice (some ⟨b, off, none⟩) k cap := hnew 2 35 (by kernel_rfl)
                have f36 : s 36 = .pointer (some ⟨g, 0, none⟩) := hnew 3 36 (by kernel_rfl)
                have f37 : s 37 = .string xs := hnew 4 37 (by kernel_rfl)
                have f38 : s 38 = .tuple #[.int .i64 fo, .bool true] := hnew 5 38 (by kernel_rfl)
                have f39 : s 39 = .int .i64 fo := hnew 7 39 (by kernel_rfl)
                have f40 : s 40 = .bool true := hnew 8 40 (by kernel_rfl)
                change Exit.then _ _ .normal ⟨#[s 0, s 1, s 2, s 3, s 4, s 5, s 6, s 7, s 8, s 9, s 10, s 11, s 12, s 13, s 14, s 15, s 16, s 17, s 18, s 19, s 20, s 21, s 22, s 23, s 24, s 25, s 26, s 27, s 28, s 29, s 30, s 31, s 32, s 33, s 34, s 35, s 36, s 37, s 38, s 39, s 40, s 41, s 42], _⟩ _
                simp only [f0, f1, f3, f4, f7, f8, f9, f10, f11, f12, f13, f5, f6, f32, f33, f34, f35, f36, f37, f38, f39, f40]
                clear hold hnew
                go_wp2
                go_ret
                exact ⟨by rw [HG.out, HF2.out]; rfl, ((hE.trans hE0).trans hE1).trans hEr⟩
          · have n1 : xk ≠ 1 := fun e => hkk (.inl e)
            have n2 : xk ≠ 2 := fun e => hkk (.inr e)
            have m1 : (xk != 1) = true := bne_iff_ne.2 n1
            have m2 : (xk != 2) = true := bne_iff_ne.2 n2
            have HM := Lib.hid HM
            replace HF : Hid (colsFrom [] l = 20) := Lib.hid (by rw [HF.out, if_pos (by simp [n1, n2])])
            go_wp2_with (first | (rw [← hw0]; (with_reducible refine (HM.out _).mono ?_); rintro x w1 ⟨rfl, hE1⟩; have c1 := (B0.ev hE1).c1))
            go_ret
            exact ⟨by rw [HG.out, HF.out]; rfl, (hE.trans hE0).trans hE1⟩
      · obtain rfl : k = n := by omega
        have HF : Hid (colsFrom [] l = 0) := Lib.hid (by rw [HT.out, List.drop_eq_nil_of_le (by rw [HN.out]; exact Nat.le_refl _)]; rfl)
        go_wp2
        go_ret
        exact ⟨by rw [HG.out, HF.out]; rfl, hE⟩
end Go.Proofs.Ytkjodlngpdihhaa
