/-
  The document's own Columns (chapter 5).
-/
import Derived.Test.YtkjodlngpdihhaaRef5
import Derived.Test.YtkjodlngpdihhaaRowL
namespace Go.Proofs.Ytkjodlngpdihhaa
open Go.RowKit
set_option linter.unusedVariables false

set_option maxRecDepth 100000 in
set_option maxHeartbeats 8000000 in
theorem ref5_columns {A : Option Addr} {n cap : Nat} {l : List C} (w : World) (h : Cs w A n cap l) (hS : ∀ c ∈ l, c.1.size ≤ maxLen) :
    Calls Try.prog 8 #[.slice A n cap] w fun e w' => e = .returned (.int .i64 (colsV l)) ∧ Ev w w' := by
  have hn := h.le
  have hm := h.max
  have HN := Lib.hid h.len
  have HS := Lib.hid hS
  clear hS
  have hmix : Try.prog.follows .mixedOrders = true := by kernel_rfl
  by_cases hc : 1 ≤ n ∧ n ≤ 6
  · have HG : Hid (colsV l = colsFrom [] l) := Lib.hid (by unfold colsV; rw [HN.out, decide_eq_true hc.1, decide_eq_true hc.2]; rfl)
    have j0 : ¬ (n : Int) = 0 := by omega
    have j6 : ¬ (6 : Int) < (n : Int) := by omega
    have b1 : ((n : Int) == 0) = false := beq_eq_false_iff_ne.2 j0
    have b2 : decide ((6 : Int) < (n : Int)) = false := decide_eq_false j6
    clear hc
    go_enter Try.func8, Try.ntmps8
    go_wp2
    go_loopw [3] (fun i wr => ∃ k : Nat, k ≤ n ∧ i = .int .i64 k ∧ Hid (colsFrom [] l = colsFrom (l.take k) (l.drop k)) ∧ Ev w wr) (fun i _ => n - (intOf i).toNat)
    case atStart => exact ⟨0, Nat.zero_le _, rfl, Lib.hid rfl, Ev.refl _⟩
    case round =>
      obtain ⟨k, hk, rfl, HT, hE⟩ := hrel
      by_cases hlt : k < n
      · obtain ⟨b, off, ⟨xs, xk⟩, rfl, hb, hx, c0, c1⟩ := (h.ev hE).ccell hlt
        simp only at c0 c1
        have HF := Lib.hid (HT.out.trans (colsFrom_at hx))
        have hxs := HS.out _ (List.mem_of_getElem? hx)
        clear hx
        simp only at HF hxs
        have i1 : (0 : Int) ≤ (k : Int) := by omega
        have i2 : (k : Int) < (n : Int) := by omega
        have HM := fun w1 => ref5_name xs w1 hxs
        generalize nameV xs = nm at *
        cases nm
        · have HM := Lib.hid HM
          replace HF : Hid (colsFrom [] l = 20) := Lib.hid (by rw [HF.out]; rfl)
          go_wp2_with (first | ((with_reducible refine (HM.out _).mono ?_); rintro x w1 ⟨rfl, hE1⟩))
          go_ret
          exact ⟨by rw [HG.out, HF.out]; rfl, hE.trans hE1⟩
        · by_cases hkk : xk = 1 ∨ xk = 2
          · have hf := HF.out
            rw [if_neg (by rcases hkk with rfl | rfl <;> simp)] at hf
            have h1 := (h.ev hE).to k hk
            have HD := fun w1 (hE1 : Ev wr w1) => ref5_find xs w1 (h1.ev hE1)
            obtain ⟨fo, hfo⟩ : ∃ fo, foundAt (findC (l.take k) xs) = fo := ⟨_, rfl⟩
            obtain ⟨tk, htk⟩ : ∃ tk, (findC (l.take k) xs).isSome = tk := ⟨_, rfl⟩
            rw [hfo, htk] at HD
            rw [htk] at hf
            have HM := Lib.hid HM
            clear hfo htk h1
            rcases hkk with rfl | rfl
            · have hkc : k ≤ cap := by omega
              cases tk
              · have HF2 : Hid (colsFrom [] l = colsFrom (l.take (k + 1)) (l.drop (k + 1))) := Lib.hid (by rw [hf]; rfl)
                clear hf
                go_wp2_with (first | ((with_reducible refine (HM.out _).mono ?_); rintro x w1 ⟨rfl, hE1⟩; have c0 := (hE1.cell (p := ⟨b, off + k * 2, none⟩) hb).trans c0; have c1 := (hE1.cell (p := ⟨b, off + k * 2 + 1, none⟩) hb).trans c1))
                replace hb := Nat.lt_of_lt_of_le hb hE1.size
                refine wp_region_slots hmix [fun v _ => v = .slice (some ⟨b, off, none⟩) n cap, fun v _ => v = .int .i64 (k : Int), fun v _ => v = .slice (some ⟨b, off, none⟩) k cap, fun v _ => v = .slice (some ⟨b, off, none⟩) n cap, fun v _ => v = .int .i64 (k : Int), fun v _ => v = .pointer (some ⟨b, off + k * 2, none⟩), fun v _ => v = .pointer (some ⟨b, off + k * 2, none⟩), fun v _ => v = .string xs, fun v _ => v = .tuple #[.int .i64 fo, .bool false], fun v _ => v = .tuple #[.int .i64 fo, .bool false], fun v _ => v = .int .i64 fo, fun v _ => v = .bool false, fun v _ => v = .int .i64 fo, fun v _ => v = .bool false]
                  56 rfl (by kernel_rfl) ⟨mono_eq _, mono_eq _, mono_eq _, mono_eq _, mono_eq _, mono_eq _, mono_eq _, mono_eq _, mono_eq _, mono_eq _, mono_eq _, mono_eq _, mono_eq _, mono_eq _, trivial⟩ ?_ ?_
                · refine ops_cons 0 ?_ (ops_cons 1 ?_ (ops_cons 2 ?_ (ops_cons 3 ?_ (ops_cons 4 ?_ (ops_cons 5 ?_ (ops_cons 6 ?_ (ops_cons 7 ?_ (ops_cons 8 ?_ (ops_cons 9 ?_ (ops_cons 10 ?_ (ops_cons 11 ?_ (ops_cons 12 ?_ (ops_cons 13 ?_ (ops_nil 14))))))))))))))
                  · refine op_value fun a w c => ⟨(wanted_plain rfl), _, run_move _ rfl w, (c.was 0 (by kernel_rfl) rfl)⟩
                  · refine op_value fun a w c => ⟨(wanted_plain rfl), _, run_move _ rfl w, (c.was 3 (by kernel_rfl) rfl)⟩
                  · refine op_value fun a w c => ⟨(wanted_plain rfl), _, run_to_cols k rfl ((c.new 0 44 (by kernel_rfl) (by kernel_rfl)) : a.eval (.tmp 44) = .slice (some ⟨b, off, none⟩) n cap) ((c.new 1 45 (by kernel_rfl) (by kernel_rfl)) : a.eval (.tmp 45) = .int .i64 (k : Int)) hkc w, rfl⟩
                  · refine op_value fun a w c => ⟨(wanted_plain rfl), _, run_move _ rfl w, (c.was 0 (by kernel_rfl) rfl)⟩
                  · refine op_value fun a w c => ⟨(wanted_plain rfl), _, run_move _ rfl w, (c.was 3 (by kernel_rfl) rfl)⟩
                  · refine op_value fun a w c => ⟨(wanted_plain rfl), .pointer (some ⟨b, off + k * 2, none⟩), ?_, rfl⟩
                    have e47 : a.eval (.tmp 47) = .slice (some ⟨b, off, none⟩) n cap := (c.new 3 47 (by kernel_rfl) (by kernel_rfl))
                    have e48 : a.eval (.tmp 48) = .int .i64 (k : Int) := (c.new 4 48 (by kernel_rfl) (by kernel_rfl))
                    generalize a.eval = ρ at e47 e48 ⊢
                    simp [execOp, e47, e48, go_sem, i1, i2]
                  · refine op_value fun a w c => ⟨(wanted_plain rfl), .pointer (some ⟨b, off + k * 2, none⟩), ?_, rfl⟩
                    have e49 : a.eval (.tmp 49) = .pointer (some ⟨b, off + k * 2, none⟩) := (c.new 5 49 (by kernel_rfl) (by kernel_rfl))
                    generalize a.eval = ρ at e49 ⊢
                    simp [execOp, e49, go_sem]
                  · refine op_value fun a w c => ⟨(wanted_plain rfl), .string xs, ?_, rfl⟩
                    have e50 : a.eval (.tmp 50) = .pointer (some ⟨b, off + k * 2, none⟩) := (c.new 6 50 (by kernel_rfl) (by kernel_rfl))
                    have hc := (c.ev.cell (p := ⟨_, _, none⟩) hb).trans c0
                    generalize a.eval = ρ at e50 ⊢
                    simp [execOp, e50, hc, go_sem]
                  · refine op_call fun a w c => ⟨(wanted_plain rfl), 26, #[.slice (some ⟨b, off, none⟩) k cap, .string xs], ?_, ?_⟩
                    · rw [run_call 26 _ _ rfl (by kernel_rfl)]
                      have e46 : a.eval (.tmp 46) = .slice (some ⟨b, off, none⟩) k cap := (c.new 2 46 (by kernel_rfl) (by kernel_rfl))
                      have e51 : a.eval (.tmp 51) = .string xs := (c.new 7 51 (by kernel_rfl) (by kernel_rfl))
                      simp [e46, e51]
                    · refine (HD w (hE1.trans c.ev)).mono ?_
                      rintro e w2 ⟨rfl, hE⟩
                      exact ⟨_, rfl, hE, rfl⟩
                  · refine op_value fun a w c => ⟨(wanted_plain rfl), _, run_move _ rfl w, (c.new 8 52 (by kernel_rfl) (by kernel_rfl))⟩
                  · refine op_value fun a w c => ⟨(wanted_plain rfl), .int .i64 fo, ?_, rfl⟩
                    have e43 : a.eval (.tmp 43) = .tuple #[.int .i64 fo, .bool false] := (c.new 9 43 (by kernel_rfl) (by kernel_rfl))
                    generalize a.eval = ρ at e43 ⊢
                    simp [execOp, e43, go_sem]
                  · refine op_value fun a w c => ⟨(wanted_plain rfl), .bool false, ?_, rfl⟩
                    have e43 : a.eval (.tmp 43) = .tuple #[.int .i64 fo, .bool false] := (c.new 9 43 (by kernel_rfl) (by kernel_rfl))
                    generalize a.eval = ρ at e43 ⊢
                    simp [execOp, e43, go_sem]
                  · refine op_value fun a w c => ⟨(wanted_plain rfl), _, run_assign _ rfl w, (c.new 10 53 (by kernel_rfl) (by kernel_rfl))⟩
                  · refine op_value fun a w c => ⟨(wanted_plain rfl), _, run_assign _ rfl w, (c.new 11 54 (by kernel_rfl) (by kernel_rfl))⟩
                intro s w4 hEr hold hnew
                have f0 : s 0 = .slice (some ⟨b, off, none⟩) n cap := hold 0 (by kernel_rfl)
                have f1 : s 1 = undef := hold 1 (by kernel_rfl)
                have f3 : s 3 = .int .i64 (k : Int) := hold 3 (by kernel_rfl)
                have f6 : s 6 = .slice (some ⟨b, off, none⟩) n cap := hold 6 (by kernel_rfl)
                have f7 : s 7 = .int .i64 (n : Int) := hold 7 (by kernel_rfl)
                have f8 : s 8 = .bool false := hold 8 (by kernel_rfl)
                have f9 : s 9 = .bool false := hold 9 (by kernel_rfl)
                have f10 : s 10 = .slice (some ⟨b, off, none⟩) n cap := hold 10 (by kernel_rfl)
                have f11 : s 11 = .int .i64 (n : Int) := hold 11 (by kernel_rfl)
                have f12 : s 12 = .bool false := hold 12 (by kernel_rfl)
                have f13 : s 13 = .bool false := hold 13 (by kernel_rfl)
                have f4 : s 4 = .int .i64 fo := hnew 12 4 (by kernel_rfl)
                have f5 : s 5 = .bool false := hnew 13 5 (by kernel_rfl)
                have f43 : s 43 = .tuple #[.int .i64 fo, .bool false] := hnew 9 43 (by kernel_rfl)
                have f44 : s 44 = .slice (some ⟨b, off, none⟩) n cap := hnew 0 44 (by kernel_rfl)
                have f45 : s 45 = .int .i64 (k : Int) := hnew 1 45 (by kernel_rfl)
                have f46 : s 46 = .slice (some ⟨b, off, none⟩) k cap := hnew 2 46 (by kernel_rfl)
                have f47 : s 47 = .slice (some ⟨b, off, none⟩) n cap := hnew 3 47 (by kernel_rfl)
                have f48 : s 48 = .int .i64 (k : Int) := hnew 4 48 (by kernel_rfl)
                have f49 : s 49 = .pointer (some ⟨b, off + k * 2, none⟩) := hnew 5 49 (by kernel_rfl)
                have f50 : s 50 = .pointer (some ⟨b, off + k * 2, none⟩) := hnew 6 50 (by kernel_rfl)
                have f51 : s 51 = .string xs := hnew 7 51 (by kernel_rfl)
                have f52 : s 52 = .tuple #[.int .i64 fo, .bool false] := hnew 8 52 (by kernel_rfl)
                have f53 : s 53 = .int .i64 fo := hnew 10 53 (by kernel_rfl)
                have f54 : s 54 = .bool false := hnew 11 54 (by kernel_rfl)
                change Exit.then _ _ .normal ⟨#[s 0, s 1, s 2, s 3, s 4, s 5, s 6, s 7, s 8, s 9, s 10, s 11, s 12, s 13, s 14, s 15, s 16, s 17, s 18, s 19, s 20, s 21, s 22, s 23, s 24, s 25, s 26, s 27, s 28, s 29, s 30, s 31, s 32, s 33, s 34, s 35, s 36, s 37, s 38, s 39, s 40, s 41, s 42, s 43, s 44, s 45, s 46, s 47, s 48, s 49, s 50, s 51, s 52, s 53, s 54, s 55], _⟩ _
                simp only [f0, f1, f3, f6, f7, f8, f9, f10, f11, f12, f13, f4, f5, f43, f44, f45, f46, f47, f48, f49, f50, f51, f52, f53, f54]
                clear hold hnew
                generalize s 2 = u2
                generalize s 14 = u14
                generalize s 15 = u15
                generalize s 16 = u16
                generalize s 17 = u17
                generalize s 18 = u18
                generalize s 19 = u19
                generalize s 20 = u20
                generalize s 21 = u21
                generalize s 22 = u22
                generalize s 23 = u23
                generalize s 24 = u24
                generalize s 25 = u25
                generalize s 26 = u26
                generalize s 27 = u27
                generalize s 28 = u28
                generalize s 29 = u29
                generalize s 30 = u30
                generalize s 31 = u31
                generalize s 32 = u32
                generalize s 33 = u33
                generalize s 34 = u34
                generalize s 35 = u35
                generalize s 36 = u36
                generalize s 37 = u37
                generalize s 38 = u38
                generalize s 39 = u39
                generalize s 40 = u40
                generalize s 41 = u41
                generalize s 42 = u42
                generalize s 55 = u55
                go_wp2
                go_roundw
                case rel => exact ⟨k + 1, by omega, by go_num, HF2, (hE.trans hE1).trans hEr⟩
                case measure => simp [intOf]; omega
              · have HF2 : Hid (colsFrom [] l = 21) := Lib.hid (by rw [hf]; rfl)
                clear hf
                go_wp2_with (first | ((with_reducible refine (HM.out _).mono ?_); rintro x w1 ⟨rfl, hE1⟩; have c0 := (hE1.cell (p := ⟨b, off + k * 2, none⟩) hb).trans c0; have c1 := (hE1.cell (p := ⟨b, off + k * 2 + 1, none⟩) hb).trans c1))
                replace hb := Nat.lt_of_lt_of_le hb hE1.size
                refine wp_region_slots hmix [fun v _ => v = .slice (some ⟨b, off, none⟩) n cap, fun v _ => v = .int .i64 (k : Int), fun v _ => v = .slice (some ⟨b, off, none⟩) k cap, fun v _ => v = .slice (some ⟨b, off, none⟩) n cap, fun v _ => v = .int .i64 (k : Int), fun v _ => v = .pointer (some ⟨b, off + k * 2, none⟩), fun v _ => v = .pointer (some ⟨b, off + k * 2, none⟩), fun v _ => v = .string xs, fun v _ => v = .tuple #[.int .i64 fo, .bool true], fun v _ => v = .tuple #[.int .i64 fo, .bool true], fun v _ => v = .int .i64 fo, fun v _ => v = .bool true, fun v _ => v = .int .i64 fo, fun v _ => v = .bool true]
                  56 rfl (by kernel_rfl) ⟨mono_eq _, mono_eq _, mono_eq _, mono_eq _, mono_eq _, mono_eq _, mono_eq _, mono_eq _, mono_eq _, mono_eq _, mono_eq _, mono_eq _, mono_eq _, mono_eq _, trivial⟩ ?_ ?_
                · refine ops_cons 0 ?_ (ops_cons 1 ?_ (ops_cons 2 ?_ (ops_cons 3 ?_ (ops_cons 4 ?_ (ops_cons 5 ?_ (ops_cons 6 ?_ (ops_cons 7 ?_ (ops_cons 8 ?_ (ops_cons 9 ?_ (ops_cons 10 ?_ (ops_cons 11 ?_ (ops_cons 12 ?_ (ops_cons 13 ?_ (ops_nil 14))))))))))))))
                  · refine op_value fun a w c => ⟨(wanted_plain rfl), _, run_move _ rfl w, (c.was 0 (by kernel_rfl) rfl)⟩
                  · refine op_value fun a w c => ⟨(wanted_plain rfl), _, run_move _ rfl w, (c.was 3 (by kernel_rfl) rfl)⟩
                  · refine op_value fun a w c => ⟨(wanted_plain rfl), _, run_to_cols k rfl ((c.new 0 44 (by kernel_rfl) (by kernel_rfl)) : a.eval (.tmp 44) = .slice (some ⟨b, off, none⟩) n cap) ((c.new 1 45 (by kernel_rfl) (by kernel_rfl)) : a.eval (.tmp 45) = .int .i64 (k : Int)) hkc w, rfl⟩
                  · refine op_value fun a w c => ⟨(wanted_plain rfl), _, run_move _ rfl w, (c.was 0 (by kernel_rfl) rfl)⟩
                  · refine op_value fun a w c => ⟨(wanted_plain rfl), _, run_move _ rfl w, (c.was 3 (by kernel_rfl) rfl)⟩
                  · refine op_value fun a w c => ⟨(wanted_plain rfl), .pointer (some ⟨b, off + k * 2, none⟩), ?_, rfl⟩
                    have e47 : a.eval (.tmp 47) = .slice (some ⟨b, off, none⟩) n cap := (c.new 3 47 (by kernel_rfl) (by kernel_rfl))
                    have e48 : a.eval (.tmp 48) = .int .i64 (k : Int) := (c.new 4 48 (by kernel_rfl) (by kernel_rfl))
                    generalize a.eval = ρ at e47 e48 ⊢
                    simp [execOp, e47, e48, go_sem, i1, i2]
                  · refine op_value fun a w c => ⟨(wanted_plain rfl), .pointer (some ⟨b, off + k * 2, none⟩), ?_, rfl⟩
                    have e49 : a.eval (.tmp 49) = .pointer (some ⟨b, off + k * 2, none⟩) := (c.new 5 49 (by kernel_rfl) (by kernel_rfl))
                    generalize a.eval = ρ at e49 ⊢
                    simp [execOp, e49, go_sem]
                  · refine op_value fun a w c => ⟨(wanted_plain rfl), .string xs, ?_, rfl⟩
                    have e50 : a.eval (.tmp 50) = .pointer (some ⟨b, off + k * 2, none⟩) := (c.new 6 50 (by kernel_rfl) (by kernel_rfl))
                    have hc := (c.ev.cell (p := ⟨_, _, none⟩) hb).trans c0
                    generalize a.eval = ρ at e50 ⊢
                    simp [execOp, e50, hc, go_sem]
                  · refine op_call fun a w c => ⟨(wanted_plain rfl), 26, #[.slice (some ⟨b, off, none⟩) k cap, .string xs], ?_, ?_⟩
                    · rw [run_call 26 _ _ rfl (by kernel_rfl)]
                      have e46 : a.eval (.tmp 46) = .slice (some ⟨b, off, none⟩) k cap := (c.new 2 46 (by kernel_rfl) (by kernel_rfl))
                      have e51 : a.eval (.tmp 51) = .string xs := (c.new 7 51 (by kernel_rfl) (by kernel_rfl))
                      simp [e46, e51]
                    · refine (HD w (hE1.trans c.ev)).mono ?_
                      rintro e w2 ⟨rfl, hE⟩
                      exact ⟨_, rfl, hE, rfl⟩
                  · refine op_value fun a w c => ⟨(wanted_plain rfl), _, run_move _ rfl w, (c.new 8 52 (by kernel_rfl) (by kernel_rfl))⟩
                  · refine op_value fun a w c => ⟨(wanted_plain rfl), .int .i64 fo, ?_, rfl⟩
                    have e43 : a.eval (.tmp 43) = .tuple #[.int .i64 fo, .bool true] := (c.new 9 43 (by kernel_rfl) (by kernel_rfl))
                    generalize a.eval = ρ at e43 ⊢
                    simp [execOp, e43, go_sem]
                  · refine op_value fun a w c => ⟨(wanted_plain rfl), .bool true, ?_, rfl⟩
                    have e43 : a.eval (.tmp 43) = .tuple #[.int .i64 fo, .bool true] := (c.new 9 43 (by kernel_rfl) (by kernel_rfl))
                    generalize a.eval = ρ at e43 ⊢
                    simp [execOp, e43, go_sem]
                  · refine op_value fun a w c => ⟨(wanted_plain rfl), _, run_assign _ rfl w, (c.new 10 53 (by kernel_rfl) (by kernel_rfl))⟩
                  · refine op_value fun a w c => ⟨(wanted_plain rfl), _, run_assign _ rfl w, (c.new 11 54 (by kernel_rfl) (by kernel_rfl))⟩
                intro s w4 hEr hold hnew
                have f0 : s 0 = .slice (some ⟨b, off, none⟩) n cap := hold 0 (by kernel_rfl)
                have f1 : s 1 = undef := hold 1 (by kernel_rfl)
                have f3 : s 3 = .int .i64 (k : Int) := hold 3 (by kernel_rfl)
                have f6 : s 6 = .slice (some ⟨b, off, none⟩) n cap := hold 6 (by kernel_rfl)
                have f7 : s 7 = .int .i64 (n : Int) := hold 7 (by kernel_rfl)
                have f8 : s 8 = .bool false := hold 8 (by kernel_rfl)
                have f9 : s 9 = .bool false := hold 9 (by kernel_rfl)
                have f10 : s 10 = .slice (some ⟨b, off, none⟩) n cap := hold 10 (by kernel_rfl)
                have f11 : s 11 = .int .i64 (n : Int) := hold 11 (by kernel_rfl)
                have f12 : s 12 = .bool false := hold 12 (by kernel_rfl)
                have f13 : s 13 = .bool false := hold 13 (by kernel_rfl)
                have f4 : s 4 = .int .i64 fo := hnew 12 4 (by kernel_rfl)
                have f5 : s 5 = .bool true := hnew 13 5 (by kernel_rfl)
                have f43 : s 43 = .tuple #[.int .i64 fo, .bool true] := hnew 9 43 (by kernel_rfl)
                have f44 : s 44 = .slice (some ⟨b, off, none⟩) n cap := hnew 0 44 (by kernel_rfl)
                have f45 : s 45 = .int .i64 (k : Int) := hnew 1 45 (by kernel_rfl)
                have f46 : s 46 = .slice (some ⟨b, off, none⟩) k cap := hnew 2 46 (by kernel_rfl)
                have f47 : s 47 = .slice (some ⟨b, off, none⟩) n cap := hnew 3 47 (by kernel_rfl)
                have f48 : s 48 = .int .i64 (k : Int) := hnew 4 48 (by kernel_rfl)
                have f49 : s 49 = .pointer (some ⟨b, off + k * 2, none⟩) := hnew 5 49 (by kernel_rfl)
                have f50 : s 50 = .pointer (some ⟨b, off + k * 2, none⟩) := hnew 6 50 (by kernel_rfl)
                have f51 : s 51 = .string xs := hnew 7 51 (by kernel_rfl)
                have f52 : s 52 = .tuple #[.int .i64 fo, .bool true] := hnew 8 52 (by kernel_rfl)
                have f53 : s 53 = .int .i64 fo := hnew 10 53 (by kernel_rfl)
                have f54 : s 54 = .bool true := hnew 11 54 (by kernel_rfl)
                change Exit.then _ _ .normal ⟨#[s 0, s 1, s 2, s 3, s 4, s 5, s 6, s 7, s 8, s 9, s 10, s 11, s 12, s 13, s 14, s 15, s 16, s 17, s 18, s 19, s 20, s 21, s 22, s 23, s 24, s 25, s 26, s 27, s 28, s 29, s 30, s 31, s 32, s 33, s 34, s 35, s 36, s 37, s 38, s 39, s 40, s 41, s 42, s 43, s 44, s 45, s 46, s 47, s 48, s 49, s 50, s 51, s 52, s 53, s 54, s 55], _⟩ _
                simp only [f0, f1, f3, f6, f7, f8, f9, f10, f11, f12, f13, f4, f5, f43, f44, f45, f46, f47, f48, f49, f50, f51, f52, f53, f54]
                clear hold hnew
                go_wp2
                go_ret
                exact ⟨by rw [HG.out, HF2.out]; rfl, (hE.trans hE1).trans hEr⟩
            · have hkc : k ≤ cap := by omega
              cases tk
              · have HF2 : Hid (colsFrom [] l = colsFrom (l.take (k + 1)) (l.drop (k + 1))) := Lib.hid (by rw [hf]; rfl)
                clear hf
                go_wp2_with (first | ((with_reducible refine (HM.out _).mono ?_); rintro x w1 ⟨rfl, hE1⟩; have c0 := (hE1.cell (p := ⟨b, off + k * 2, none⟩) hb).trans c0; have c1 := (hE1.cell (p := ⟨b, off + k * 2 + 1, none⟩) hb).trans c1))
                replace hb := Nat.lt_of_lt_of_le hb hE1.size
                refine wp_region_slots hmix [fun v _ => v = .slice (some ⟨b, off, none⟩) n cap, fun v _ => v = .int .i64 (k : Int), fun v _ => v = .slice (some ⟨b, off, none⟩) k cap, fun v _ => v = .slice (some ⟨b, off, none⟩) n cap, fun v _ => v = .int .i64 (k : Int), fun v _ => v = .pointer (some ⟨b, off + k * 2, none⟩), fun v _ => v = .pointer (some ⟨b, off + k * 2, none⟩), fun v _ => v = .string xs, fun v _ => v = .tuple #[.int .i64 fo, .bool false], fun v _ => v = .tuple #[.int .i64 fo, .bool false], fun v _ => v = .int .i64 fo, fun v _ => v = .bool false, fun v _ => v = .int .i64 fo, fun v _ => v = .bool false]
                  56 rfl (by kernel_rfl) ⟨mono_eq _, mono_eq _, mono_eq _, mono_eq _, mono_eq _, mono_eq _, mono_eq _, mono_eq _, mono_eq _, mono_eq _, mono_eq _, mono_eq _, mono_eq _, mono_eq _, trivial⟩ ?_ ?_
                · refine ops_cons 0 ?_ (ops_cons 1 ?_ (ops_cons 2 ?_ (ops_cons 3 ?_ (ops_cons 4 ?_ (ops_cons 5 ?_ (ops_cons 6 ?_ (ops_cons 7 ?_ (ops_cons 8 ?_ (ops_cons 9 ?_ (ops_cons 10 ?_ (ops_cons 11 ?_ (ops_cons 12 ?_ (ops_cons 13 ?_ (ops_nil 14))))))))))))))
                  · refine op_value fun a w c => ⟨(wanted_plain rfl), _, run_move _ rfl w, (c.was 0 (by kernel_rfl) rfl)⟩
                  · refine op_value fun a w c => ⟨(wanted_plain rfl), _, run_move _ rfl w, (c.was 3 (by kernel_rfl) rfl)⟩
                  · refine op_value fun a w c => ⟨(wanted_plain rfl), _, run_to_cols k rfl ((c.new 0 44 (by kernel_rfl) (by kernel_rfl)) : a.eval (.tmp 44) = .slice (some ⟨b, off, none⟩) n cap) ((c.new 1 45 (by kernel_rfl) (by kernel_rfl)) : a.eval (.tmp 45) = .int .i64 (k : Int)) hkc w, rfl⟩
                  · refine op_value fun a w c => ⟨(wanted_plain rfl), _, run_move _ rfl w, (c.was 0 (by kernel_rfl) rfl)⟩
                  · refine op_value fun a w c => ⟨(wanted_plain rfl), _, run_move _ rfl w, (c.was 3 (by kernel_rfl) rfl)⟩
                  · refine op_value fun a w c => ⟨(wanted_plain rfl), .pointer (some ⟨b, off + k * 2, none⟩), ?_, rfl⟩
                    have e47 : a.eval (.tmp 47) = .slice (some ⟨b, off, none⟩) n cap := (c.new 3 47 (by kernel_rfl) (by kernel_rfl))
                    have e48 : a.eval (.tmp 48) = .int .i64 (k : Int) := (c.new 4 48 (by kernel_rfl) (by kernel_rfl))
                    generalize a.eval = ρ at e47 e48 ⊢
                    simp [execOp, e47, e48, go_sem, i1, i2]
                  · refine op_value fun a w c => ⟨(wanted_plain rfl), .pointer (some ⟨b, off + k * 2, none⟩), ?_, rfl⟩
                    have e49 : a.eval (.tmp 49) = .pointer (some ⟨b, off + k * 2, none⟩) := (c.new 5 49 (by kernel_rfl) (by kernel_rfl))
                    generalize a.eval = ρ at e49 ⊢
                    simp [execOp, e49, go_sem]
                  · refine op_value fun a w c => ⟨(wanted_plain rfl), .string xs, ?_, rfl⟩
                    have e50 : a.eval (.tmp 50) = .pointer (some ⟨b, off + k * 2, none⟩) := (c.new 6 50 (by kernel_rfl) (by kernel_rfl))
                    have hc := (c.ev.cell (p := ⟨_, _, none⟩) hb).trans c0
                    generalize a.eval = ρ at e50 ⊢
                    simp [execOp, e50, hc, go_sem]
                  · refine op_call fun a w c => ⟨(wanted_plain rfl), 26, #[.slice (some ⟨b, off, none⟩) k cap, .string xs], ?_, ?_⟩
                    · rw [run_call 26 _ _ rfl (by kernel_rfl)]
                      have e46 : a.eval (.tmp 46) = .slice (some ⟨b, off, none⟩) k cap := (c.new 2 46 (by kernel_rfl) (by kernel_rfl))
                      have e51 : a.eval (.tmp 51) = .string xs := (c.new 7 51 (by kernel_rfl) (by kernel_rfl))
                      simp [e46, e51]
                    · refine (HD w (hE1.trans c.ev)).mono ?_
                      rintro e w2 ⟨rfl, hE⟩
                      exact ⟨_, rfl, hE, rfl⟩
                  · refine op_value fun a w c => ⟨(wanted_plain rfl), _, run_move _ rfl w, (c.new 8 52 (by kernel_rfl) (by kernel_rfl))⟩
                  · refine op_value fun a w c => ⟨(wanted_plain rfl), .int .i64 fo, ?_, rfl⟩
                    have e43 : a.eval (.tmp 43) = .tuple #[.int .i64 fo, .bool false] := (c.new 9 43 (by kernel_rfl) (by kernel_rfl))
                    generalize a.eval = ρ at e43 ⊢
                    simp [execOp, e43, go_sem]
                  · refine op_value fun a w c => ⟨(wanted_plain rfl), .bool false, ?_, rfl⟩
                    have e43 : a.eval (.tmp 43) = .tuple #[.int .i64 fo, .bool false] := (c.new 9 43 (by kernel_rfl) (by kernel_rfl))
                    generalize a.eval = ρ at e43 ⊢
                    simp [execOp, e43, go_sem]
                  · refine op_value fun a w c => ⟨(wanted_plain rfl), _, run_assign _ rfl w, (c.new 10 53 (by kernel_rfl) (by kernel_rfl))⟩
                  · refine op_value fun a w c => ⟨(wanted_plain rfl), _, run_assign _ rfl w, (c.new 11 54 (by kernel_rfl) (by kernel_rfl))⟩
                intro s w4 hEr hold hnew
                have f0 : s 0 = .slice (some ⟨b, off, none⟩) n cap := hold 0 (by kernel_rfl)
                have f1 : s 1 = undef := hold 1 (by kernel_rfl)
                have f3 : s 3 = .int .i64 (k : Int) := hold 3 (by kernel_rfl)
                have f6 : s 6 = .slice (some ⟨b, off, none⟩) n cap := hold 6 (by kernel_rfl)
                have f7 : s 7 = .int .i64 (n : Int) := hold 7 (by kernel_rfl)
                have f8 : s 8 = .bool false := hold 8 (by kernel_rfl)
                have f9 : s 9 = .bool false := hold 9 (by kernel_rfl)
                have f10 : s 10 = .slice (some ⟨b, off, none⟩) n cap := hold 10 (by kernel_rfl)
                have f11 : s 11 = .int .i64 (n : Int) := hold 11 (by kernel_rfl)
                have f12 : s 12 = .bool false := hold 12 (by kernel_rfl)
                have f13 : s 13 = .bool false := hold 13 (by kernel_rfl)
                have f4 : s 4 = .int .i64 fo := hnew 12 4 (by kernel_rfl)
                have f5 : s 5 = .bool false := hnew 13 5 (by kernel_rfl)
                have f43 : s 43 = .tuple #[.int .i64 fo, .bool false] := hnew 9 43 (by kernel_rfl)
                have f44 : s 44 = .slice (some ⟨b, off, none⟩) n cap := hnew 0 44 (by kernel_rfl)
                have f45 : s 45 = .int .i64 (k : Int) := hnew 1 45 (by kernel_rfl)
                have f46 : s 46 = .slice (some ⟨b, off, none⟩) k cap := hnew 2 46 (by kernel_rfl)
                have f47 : s 47 = .slice (some ⟨b, off, none⟩) n cap := hnew 3 47 (by kernel_rfl)
                have f48 : s 48 = .int .i64 (k : Int) := hnew 4 48 (by kernel_rfl)
                have f49 : s 49 = .pointer (some ⟨b, off + k * 2, none⟩) := hnew 5 49 (by kernel_rfl)
                have f50 : s 50 = .pointer (some ⟨b, off + k * 2, none⟩) := hnew 6 50 (by kernel_rfl)
                have f51 : s 51 = .string xs := hnew 7 51 (by kernel_rfl)
                have f52 : s 52 = .tuple #[.int .i64 fo, .bool false] := hnew 8 52 (by kernel_rfl)
                have f53 : s 53 = .int .i64 fo := hnew 10 53 (by kernel_rfl)
                have f54 : s 54 = .bool false := hnew 11 54 (by kernel_rfl)
                change Exit.then _ _ .normal ⟨#[s 0, s 1, s 2, s 3, s 4, s 5, s 6, s 7, s 8, s 9, s 10, s 11, s 12, s 13, s 14, s 15, s 16, s 17, s 18, s 19, s 20, s 21, s 22, s 23, s 24, s 25, s 26, s 27, s 28, s 29, s 30, s 31, s 32, s 33, s 34, s 35, s 36, s 37, s 38, s 39, s 40, s 41, s 42, s 43, s 44, s 45, s 46, s 47, s 48, s 49, s 50, s 51, s 52, s 53, s 54, s 55], _⟩ _
                simp only [f0, f1, f3, f6, f7, f8, f9, f10, f11, f12, f13, f4, f5, f43, f44, f45, f46, f47, f48, f49, f50, f51, f52, f53, f54]
                clear hold hnew
                generalize s 2 = u2
                generalize s 14 = u14
                generalize s 15 = u15
                generalize s 16 = u16
                generalize s 17 = u17
                generalize s 18 = u18
                generalize s 19 = u19
                generalize s 20 = u20
                generalize s 21 = u21
                generalize s 22 = u22
                generalize s 23 = u23
                generalize s 24 = u24
                generalize s 25 = u25
                generalize s 26 = u26
                generalize s 27 = u27
                generalize s 28 = u28
                generalize s 29 = u29
                generalize s 30 = u30
                generalize s 31 = u31
                generalize s 32 = u32
                generalize s 33 = u33
                generalize s 34 = u34
                generalize s 35 = u35
                generalize s 36 = u36
                generalize s 37 = u37
                generalize s 38 = u38
                generalize s 39 = u39
                generalize s 40 = u40
                generalize s 41 = u41
                generalize s 42 = u42
                generalize s 55 = u55
                go_wp2
                go_roundw
                case rel => exact ⟨k + 1, by omega, by go_num, HF2, (hE.trans hE1).trans hEr⟩
                case measure => simp [intOf]; omega
              · have HF2 : Hid (colsFrom [] l = 21) := Lib.hid (by rw [hf]; rfl)
                clear hf
                go_wp2_with (first | ((with_reducible refine (HM.out _).mono ?_); rintro x w1 ⟨rfl, hE1⟩; have c0 := (hE1.cell (p := ⟨b, off + k * 2, none⟩) hb).trans c0; have c1 := (hE1.cell (p := ⟨b, off + k * 2 + 1, none⟩) hb).trans c1))
                replace hb := Nat.lt_of_lt_of_le hb hE1.size
                refine wp_region_slots hmix [fun v _ => v = .slice (some ⟨b, off, none⟩) n cap, fun v _ => v = .int .i64 (k : Int), fun v _ => v = .slice (some ⟨b, off, none⟩) k cap, fun v _ => v = .slice (some ⟨b, off, none⟩) n cap, fun v _ => v = .int .i64 (k : Int), fun v _ => v = .pointer (some ⟨b, off + k * 2, none⟩), fun v _ => v = .pointer (some ⟨b, off + k * 2, none⟩), fun v _ => v = .string xs, fun v _ => v = .tuple #[.int .i64 fo, .bool true], fun v _ => v = .tuple #[.int .i64 fo, .bool true], fun v _ => v = .int .i64 fo, fun v _ => v = .bool true, fun v _ => v = .int .i64 fo, fun v _ => v = .bool true]
                  56 rfl (by kernel_rfl) ⟨mono_eq _, mono_eq _, mono_eq _, mono_eq _, mono_eq _, mono_eq _, mono_eq _, mono_eq _, mono_eq _, mono_eq _, mono_eq _, mono_eq _, mono_eq _, mono_eq _, trivial⟩ ?_ ?_
                · refine ops_cons 0 ?_ (ops_cons 1 ?_ (ops_cons 2 ?_ (ops_cons 3 ?_ (ops_cons 4 ?_ (ops_cons 5 ?_ (ops_cons 6 ?_ (ops_cons 7 ?_ (ops_cons 8 ?_ (ops_cons 9 ?_ (ops_cons 10 ?_ (ops_cons 11 ?_ (ops_cons 12 ?_ (ops_cons 13 ?_ (ops_nil 14))))))))))))))
                  · refine op_value fun a w c => ⟨(wanted_plain rfl), _, run_move _ rfl w, (c.was 0 (by kernel_rfl) rfl)⟩
                  · refine op_value fun a w c => ⟨(wanted_plain rfl), _, run_move _ rfl w, (c.was 3 (by kernel_rfl) rfl)⟩
                  · refine op_value fun a w c => ⟨(wanted_plain rfl), _, run_to_cols k rfl ((c.new 0 44 (by kernel_rfl) (by kernel_rfl)) : a.eval (.tmp 44) = .slice (some ⟨b, off, none⟩) n cap) ((c.new 1 45 (by kernel_rfl) (by kernel_rfl)) : a.eval (.tmp 45) = .int .i64 (k : Int)) hkc w, rfl⟩
                  · refine op_value fun a w c => ⟨(wanted_plain rfl), _, run_move _ rfl w, (c.was 0 (by kernel_rfl) rfl)⟩
                  · refine op_value fun a w c => ⟨(wanted_plain rfl), _, run_move _ rfl w, (c.was 3 (by kernel_rfl) rfl)⟩
                  · refine op_value fun a w c => ⟨(wanted_plain rfl), .pointer (some ⟨b, off + k * 2, none⟩), ?_, rfl⟩
                    have e47 : a.eval (.tmp 47) = .slice (some ⟨b, off, none⟩) n cap := (c.new 3 47 (by kernel_rfl) (by kernel_rfl))
                    have e48 : a.eval (.tmp 48) = .int .i64 (k : Int) := (c.new 4 48 (by kernel_rfl) (by kernel_rfl))
                    generalize a.eval = ρ at e47 e48 ⊢
                    simp [execOp, e47, e48, go_sem, i1, i2]
                  · refine op_value fun a w c => ⟨(wanted_plain rfl), .pointer (some ⟨b, off + k * 2, none⟩), ?_, rfl⟩
                    have e49 : a.eval (.tmp 49) = .pointer (some ⟨b, off + k * 2, none⟩) := (c.new 5 49 (by kernel_rfl) (by kernel_rfl))
                    generalize a.eval = ρ at e49 ⊢
                    simp [execOp, e49, go_sem]
                  · refine op_value fun a w c => ⟨(wanted_plain rfl), .string xs, ?_, rfl⟩
                    have e50 : a.eval (.tmp 50) = .pointer (some ⟨b, off + k * 2, none⟩) := (c.new 6 50 (by kernel_rfl) (by kernel_rfl))
                    have hc := (c.ev.cell (p := ⟨_, _, none⟩) hb).trans c0
                    generalize a.eval = ρ at e50 ⊢
                    simp [execOp, e50, hc, go_sem]
                  · refine op_call fun a w c => ⟨(wanted_plain rfl), 26, #[.slice (some ⟨b, off, none⟩) k cap, .string xs], ?_, ?_⟩
                    · rw [run_call 26 _ _ rfl (by kernel_rfl)]
                      have e46 : a.eval (.tmp 46) = .slice (some ⟨b, off, none⟩) k cap := (c.new 2 46 (by kernel_rfl) (by kernel_rfl))
                      have e51 : a.eval (.tmp 51) = .string xs := (c.new 7 51 (by kernel_rfl) (by kernel_rfl))
                      simp [e46, e51]
                    · refine (HD w (hE1.trans c.ev)).mono ?_
                      rintro e w2 ⟨rfl, hE⟩
                      exact ⟨_, rfl, hE, rfl⟩
                  · refine op_value fun a w c => ⟨(wanted_plain rfl), _, run_move _ rfl w, (c.new 8 52 (by kernel_rfl) (by kernel_rfl))⟩
                  · refine op_value fun a w c => ⟨(wanted_plain rfl), .int .i64 fo, ?_, rfl⟩
                    have e43 : a.eval (.tmp 43) = .tuple #[.int .i64 fo, .bool true] := (c.new 9 43 (by kernel_rfl) (by kernel_rfl))
                    generalize a.eval = ρ at e43 ⊢
                    simp [execOp, e43, go_sem]
                  · refine op_value fun a w c => ⟨(wanted_plain rfl), .bool true, ?_, rfl⟩
                    have e43 : a.eval (.tmp 43) = .tuple #[.int .i64 fo, .bool true] := (c.new 9 43 (by kernel_rfl) (by kernel_rfl))
                    generalize a.eval = ρ at e43 ⊢
                    simp [execOp, e43, go_sem]
                  · refine op_value fun a w c => ⟨(wanted_plain rfl), _, run_assign _ rfl w, (c.new 10 53 (by kernel_rfl) (by kernel_rfl))⟩
                  · refine op_value fun a w c => ⟨(wanted_plain rfl), _, run_assign _ rfl w, (c.new 11 54 (by kernel_rfl) (by kernel_rfl))⟩
                intro s w4 hEr hold hnew
                have f0 : s 0 = .slice (some ⟨b, off, none⟩) n cap := hold 0 (by kernel_rfl)
                have f1 : s 1 = undef := hold 1 (by kernel_rfl)
                have f3 : s 3 = .int .i64 (k : Int) := hold 3 (by kernel_rfl)
                have f6 : s 6 = .slice (some ⟨b, off, none⟩) n cap := hold 6 (by kernel_rfl)
                have f7 : s 7 = .int .i64 (n : Int) := hold 7 (by kernel_rfl)
                have f8 : s 8 = .bool false := hold 8 (by kernel_rfl)
                have f9 : s 9 = .bool false := hold 9 (by kernel_rfl)
                have f10 : s 10 = .slice (some ⟨b, off, none⟩) n cap := hold 10 (by kernel_rfl)
                have f11 : s 11 = .int .i64 (n : Int) := hold 11 (by kernel_rfl)
                have f12 : s 12 = .bool false := hold 12 (by kernel_rfl)
                have f13 : s 13 = .bool false := hold 13 (by kernel_rfl)
                have f4 : s 4 = .int .i64 fo := hnew 12 4 (by kernel_rfl)
                have f5 : s 5 = .bool true := hnew 13 5 (by kernel_rfl)
                have f43 : s 43 = .tuple #[.int .i64 fo, .bool true] := hnew 9 43 (by kernel_rfl)
                have f44 : s 44 = .slice (some ⟨b, off, none⟩) n cap := hnew 0 44 (by kernel_rfl)
                have f45 : s 45 = .int .i64 (k : Int) := hnew 1 45 (by kernel_rfl)
                have f46 : s 46 = .slice (some ⟨b, off, none⟩) k cap := hnew 2 46 (by kernel_rfl)
                have f47 : s 47 = .slice (some ⟨b, off, none⟩) n cap := hnew 3 47 (by kernel_rfl)
                have f48 : s 48 = .int .i64 (k : Int) := hnew 4 48 (by kernel_rfl)
                have f49 : s 49 = .pointer (some ⟨b, off + k * 2, none⟩) := hnew 5 49 (by kernel_rfl)
                have f50 : s 50 = .pointer (some ⟨b, off + k * 2, none⟩) := hnew 6 50 (by kernel_rfl)
                have f51 : s 51 = .string xs := hnew 7 51 (by kernel_rfl)
                have f52 : s 52 = .tuple #[.int .i64 fo, .bool true] := hnew 8 52 (by kernel_rfl)
                have f53 : s 53 = .int .i64 fo := hnew 10 53 (by kernel_rfl)
                have f54 : s 54 = .bool true := hnew 11 54 (by kernel_rfl)
                change Exit.then _ _ .normal ⟨#[s 0, s 1, s 2, s 3, s 4, s 5, s 6, s 7, s 8, s 9, s 10, s 11, s 12, s 13, s 14, s 15, s 16, s 17, s 18, s 19, s 20, s 21, s 22, s 23, s 24, s 25, s 26, s 27, s 28, s 29, s 30, s 31, s 32, s 33, s 34, s 35, s 36, s 37, s 38, s 39, s 40, s 41, s 42, s 43, s 44, s 45, s 46, s 47, s 48, s 49, s 50, s 51, s 52, s 53, s 54, s 55], _⟩ _
                simp only [f0, f1, f3, f6, f7, f8, f9, f10, f11, f12, f13, f4, f5, f43, f44, f45, f46, f47, f48, f49, f50, f51, f52, f53, f54]
                clear hold hnew
                go_wp2
                go_ret
                exact ⟨by rw [HG.out, HF2.out]; rfl, (hE.trans hE1).trans hEr⟩
          · have n1 : xk ≠ 1 := fun e => hkk (.inl e)
            have n2 : xk ≠ 2 := fun e => hkk (.inr e)
            have m1 : (xk != 1) = true := bne_iff_ne.2 n1
            have m2 : (xk != 2) = true := bne_iff_ne.2 n2
            have HM := Lib.hid HM
            replace HF : Hid (colsFrom [] l = 20) := Lib.hid (by rw [HF.out, if_pos (by simp [n1, n2])])
            go_wp2_with (first | ((with_reducible refine (HM.out _).mono ?_); rintro x w1 ⟨rfl, hE1⟩; have c1 := (hE1.cell (p := ⟨b, off + k * 2 + 1, none⟩) hb).trans c1))
            go_ret
            exact ⟨by rw [HG.out, HF.out]; rfl, hE.trans hE1⟩
      · obtain rfl : k = n := by omega
        have HF : Hid (colsFrom [] l = 0) := Lib.hid (by rw [HT.out, List.drop_eq_nil_of_le (by rw [HN.out]; exact Nat.le_refl _)]; rfl)
        go_wp2
        go_ret
        exact ⟨by rw [HG.out, HF.out]; rfl, hE⟩
  · have HG : Hid (colsV l = 23) := Lib.hid (by
      unfold colsV
      rw [HN.out]
      by_cases h1 : 1 ≤ n
      · rw [decide_eq_false (p := n ≤ 6) (fun h2 => hc ⟨h1, h2⟩)]; simp
      · rw [decide_eq_false h1]; simp)
    by_cases h0 : n = 0
    · subst h0
      go_enter Try.func8, Try.ntmps8
      go_wp2
      go_ret
      exact ⟨by rw [HG.out]; rfl, Ev.refl _⟩
    · have j0 : ¬ (n : Int) = 0 := by omega
      have j6 : (6 : Int) < (n : Int) := by omega
      have b1 : ((n : Int) == 0) = false := beq_eq_false_iff_ne.2 j0
      go_enter Try.func8, Try.ntmps8
      go_wp2
      go_ret
      exact ⟨by rw [HG.out]; rfl, Ev.refl _⟩
end Go.Proofs.Ytkjodlngpdihhaa
