/-
  The walk of SessionNumbers.
-/
import Derived.Test.YtdfoangkjeoomaaNh
import Derived.Test.YtdfoangkjeoomaaNi
namespace Go.Proofs.Ytdfoangkjeoomaa
open Go.RowKit
set_option linter.unusedVariables false
set_option maxRecDepth 100000

theorem ask_known (p : Nat) (T : List RQ) (x s k r0 r1 : Int) (r2 : ByteArray) (h : askK T x s = k ∧ askR T x s = (r0, r1, r2)) (w : World) (hT : TbAt p T w) :
    Calls Try.prog 8 #[.pointer (some ⟨p, 0, none⟩), .int .i64 x, .int .i64 s] w fun e w' => e = .returned (.tuple #[.int .i64 k, .agg #[.int .i64 r0, .int .i64 r1, .string r2]]) ∧ Ev w w' := by
  have C := sess_ask p T x s w hT
  rw [h.1, h.2] at C
  exact C
theorem done_known (p : Nat) (T T' : List RQ) (x s k r0 r1 : Int) (r2 : ByteArray) (h : doneE T x s = k ∧ doneT T x s (r0, r1, r2) = T') (w : World) (hT : TbAt p T w) :
    Calls Try.prog 9 #[.pointer (some ⟨p, 0, none⟩), .int .i64 x, .int .i64 s, .agg #[.int .i64 r0, .int .i64 r1, .string r2]] w fun e w' => e = .returned (.int .i64 k) ∧ TbAt p T' w' ∧ But [p] w w' := by
  have C := sess_done p T x s (r0, r1, r2) w hT
  rw [h.1, h.2] at C
  exact C
theorem last_known (p : Nat) (T : List RQ) (x k : Int) (h : lastS T x = k) (w : World) (hT : TbAt p T w) :
    Calls Try.prog 12 #[.pointer (some ⟨p, 0, none⟩), .int .i64 x] w fun e w' => e = .returned (.int .i64 k) ∧ w' = w := by
  have C := sess_last p T x w hT
  rw [h] at C
  exact C
def nuT : List RQ := doneT newT 15 5 (0, 0, ⟨#[120]⟩)
theorem nuT_facts : (doneE newT 15 5 = 0) ∧ (doneE nuT 15 2 = 1 ∧ doneT nuT 15 2 (0, 0, ⟨#[]⟩) = nuT) ∧ (askK nuT 15 2 = 3 ∧ askR nuT 15 2 = (0, 0, ⟨#[]⟩)) ∧ (askK nuT 15 5 = 2 ∧ askR nuT 15 5 = (0, 0, ⟨#[120]⟩)) ∧ lastS nuT 16 = 0 ∧ lastS nuT 3 = 0 := by decide +kernel
theorem nuT_ok : TOk 100 nuT := doneT_ok (newT_ok 100) 15 5 ⟨by decide, by decide, by decide⟩
theorem saveB_ge : ∀ T : List RQ, 26 * T.length ≤ (saveB T).length
  | [] => Nat.zero_le _
  | q :: T => by
    have h1 := saveB_ge T
    have h2 := qBytes_length q
    have h3 := nameB_pos q.2.2.2.data.toList
    simp only [saveB, List.flatMap_cons, List.length_append, List.length_cons] at *
    omega
theorem qBytes_le {m : Nat} (hm : m < 65535) {q : RQ} (hq : QOk m q) : (qBytes q).length ≤ m + 26 := by
  have e : q.2.2.2.data.toList.length = q.2.2.2.size := by rw [Array.length_toList]; rfl
  rw [qBytes_length, nameB_short (by have := hq.2.2.2; omega), textBytes_length, e]
  have := hq.2.2.2
  omega
theorem saveB_le {m : Nat} (hm : m < 65535) : ∀ T : List RQ, (∀ q ∈ T, QOk m q) → (saveB T).length ≤ (m + 26) * T.length
  | [], _ => by simp [saveB]
  | q :: T, h => by
    have h1 := saveB_le hm T (fun x hx => h x (by simp [hx]))
    have h2 := qBytes_le hm (h q (by simp))
    simp only [saveB, List.flatMap_cons, List.length_append, List.length_cons, Nat.mul_succ] at *
    omega
/-- Saved and loaded: the same table, in a new block. -/
theorem load_saved {m : Nat} (hm : m < 65535) {T : List RQ} (hT : TOk m T) (A : Option Addr) (cap : Nat) (w : World) (h : Bs w A (saveB T).length cap (saveB T)) :
    Calls Try.prog 10 #[.slice A (saveB T).length cap] w fun e w' => ∃ p, e = .returned (.tuple #[.pointer (some ⟨p, 0, none⟩), .int .i64 0]) ∧ TbAt p T w' ∧ w.heap.size ≤ p ∧ Ev w w' := by
  have hs := saveB_le hm T hT.2
  rw [hT.1] at hs
  have hb := loadT_back hm hT
  refine (sess_load A _ cap (saveB T) w h (by omega)).mono ?_
  rintro e w' ⟨hE, ⟨_, p, rfl, hp, hn⟩ | ⟨hne, _⟩⟩
  · rw [hb] at hp
    exact ⟨p, rfl, hp, hn, hE⟩
  · rw [hb] at hne
    exact absurd rfl hne
theorem load_no (A : Option Addr) (cap : Nat) (w : World) (h : Bs w A 2 cap [110, 111]) :
    Calls Try.prog 10 #[.slice A 2 cap] w fun e w' => e = .returned (.tuple #[.pointer none, .int .i64 12]) ∧ Ev w w' := by
  refine (sess_load A 2 cap [110, 111] w h (by omega)).mono ?_
  rintro e w' ⟨hE, ⟨heq, _⟩ | ⟨_, rfl⟩⟩
  · have h1 := saveB_ge (loadT [110, 111])
    have h2 := (loadT_size [110, 111]).2
    rw [heq, h2] at h1
    simp at h1
  · exact ⟨rfl, hE⟩

set_option maxHeartbeats 6400000 in
theorem numbers_walk (w : World) :
    Calls Try.prog 3 #[] w fun e w' => e = .returned (.bool true) ∧ Ev w w' := by
  obtain ⟨f0, f1, f2, f3, f4, f5⟩ := nuT_facts
  have hok := nuT_ok
  have hsz := saveB_le (by decide) nuT hok.2
  rw [hok.1] at hsz
  have hn1 : doneE newT 15 5 = 0 ∧ doneT newT 15 5 (0, 0, ⟨#[120]⟩) = nuT := ⟨f0, rfl⟩
  have HN := Lib.hid (sess_new w)
  have H1 := Lib.hid (ask_known w.heap.size newT 16 1 0 0 0 ⟨#[]⟩ (by decide +kernel))
  have H2 := Lib.hid (ask_known w.heap.size newT (-1) 1 0 0 0 ⟨#[]⟩ (by decide +kernel))
  have H3 := Lib.hid (ask_known w.heap.size newT 0 0 0 0 0 ⟨#[]⟩ (by decide +kernel))
  have H4 := Lib.hid (ask_known w.heap.size newT 0 1073741825 0 0 0 ⟨#[]⟩ (by decide +kernel))
  have H5 := Lib.hid (done_known w.heap.size newT nuT 15 5 0 0 0 ⟨#[120]⟩ hn1)
  have H6 := Lib.hid (done_known w.heap.size nuT nuT 15 2 1 0 0 ⟨#[]⟩ f1)
  have H7 := Lib.hid (ask_known w.heap.size nuT 15 2 3 0 0 ⟨#[]⟩ f2)
  have H8 := Lib.hid (fun p => ask_known p nuT 15 5 2 0 0 ⟨#[120]⟩ f3)
  have HL1 := Lib.hid (last_known w.heap.size nuT 16 0 f4)
  have HL2 := Lib.hid (last_known w.heap.size nuT 3 0 f5)
  have HSv := Lib.hid (fun (w1 : World) (h : TbAt w.heap.size nuT w1) => sess_save w.heap.size nuT w1 h (by omega))
  have HLd := Lib.hid (fun (A : Option Addr) (cap : Nat) (w1 : World) (h : Bs w1 A (saveB nuT).length cap (saveB nuT)) => load_saved (by decide) hok A cap w1 h)
  have HNo := Lib.hid (fun (A : Option Addr) (cap : Nat) (w1 : World) (h : Bs w1 A 2 cap [110, 111]) => load_no A cap w1 h)
  have HK := Lib.hid known17
  clear f0 f1 f2 f3 f4 f5 hok hsz hn1
  generalize nuT = K at *
  generalize newT = N0 at *
  go_enter Try.func3, Try.ntmps3
  go_upto_region 4 with ((with_reducible refine HN.out.mono ?_); rintro e x0 ⟨rfl, hT0, hE0⟩)
  go_upto_region 5 with ((with_reducible refine (H1.out _ hT0).mono ?_); rintro e u1 ⟨rfl, hA1⟩)
  have hT1 := (hT0.ev hA1).ev (Ev.alloc u1 (.cells #[.int .i64 0, .int .i64 0, .string ⟨#[]⟩] 26))
  have hE1 := (hE0.trans hA1).trans (Ev.alloc u1 (.cells #[.int .i64 0, .int .i64 0, .string ⟨#[]⟩] 26))
  generalize u1.alloc (.cells #[.int .i64 0, .int .i64 0, .string ⟨#[]⟩] 26) = x1 at *
  clear hT0 hE0 hA1
  go_upto_region 6 with ((with_reducible refine (H2.out _ hT1).mono ?_); rintro e u2 ⟨rfl, hA2⟩)
  have hT2 := (hT1.ev hA2).ev (Ev.alloc u2 (.cells #[.int .i64 0, .int .i64 0, .string ⟨#[]⟩] 26))
  have hE2 := (hE1.trans hA2).trans (Ev.alloc u2 (.cells #[.int .i64 0, .int .i64 0, .string ⟨#[]⟩] 26))
  generalize u2.alloc (.cells #[.int .i64 0, .int .i64 0, .string ⟨#[]⟩] 26) = x2 at *
  clear hT1 hE1 hA2
  go_upto_region 7 with ((with_reducible refine (H3.out _ hT2).mono ?_); rintro e u3 ⟨rfl, hA3⟩)
  have hT3 := (hT2.ev hA3).ev (Ev.alloc u3 (.cells #[.int .i64 0, .int .i64 0, .string ⟨#[]⟩] 26))
  have hE3 := (hE2.trans hA3).trans (Ev.alloc u3 (.cells #[.int .i64 0, .int .i64 0, .string ⟨#[]⟩] 26))
  generalize u3.alloc (.cells #[.int .i64 0, .int .i64 0, .string ⟨#[]⟩] 26) = x3 at *
  clear hT2 hE2 hA3
  go_upto_region 8 with ((with_reducible refine (H4.out _ hT3).mono ?_); rintro e u4 ⟨rfl, hA4⟩)
  have hT4 := (hT3.ev hA4).ev (Ev.alloc u4 (.cells #[.int .i64 0, .int .i64 0, .string ⟨#[]⟩] 26))
  have hE4 := (hE3.trans hA4).trans (Ev.alloc u4 (.cells #[.int .i64 0, .int .i64 0, .string ⟨#[]⟩] 26))
  generalize u4.alloc (.cells #[.int .i64 0, .int .i64 0, .string ⟨#[]⟩] 26) = x4 at *
  clear hT3 hE3 hA4
  go_upto_region 9 with ((with_reducible refine (H5.out _ hT4).mono ?_); rintro e x5 ⟨rfl, hT5, hA5⟩)
  have hE5 : Ev w x5 := ((But.of_ev (K := []) hE4).trans hA5 (fun x hx => .inr (by simp at hx; omega))).ev (by simp)
  clear hT4 hE4 hA5
  go_upto_region 10 with ((with_reducible refine (H6.out _ hT5).mono ?_); rintro e x6 ⟨rfl, hT6, hA6⟩)
  have hE6 : Ev w x6 := ((But.of_ev (K := []) hE5).trans hA6 (fun x hx => .inr (by simp at hx; omega))).ev (by simp)
  clear hT5 hE5 hA6
  go_upto_region 11 with ((with_reducible refine (H7.out _ hT6).mono ?_); rintro e u7 ⟨rfl, hA7⟩)
  have hT7 := (hT6.ev hA7).ev (Ev.alloc u7 (.cells #[.int .i64 0, .int .i64 0, .string ⟨#[]⟩] 26))
  have hE7 := (hE6.trans hA7).trans (Ev.alloc u7 (.cells #[.int .i64 0, .int .i64 0, .string ⟨#[]⟩] 26))
  generalize u7.alloc (.cells #[.int .i64 0, .int .i64 0, .string ⟨#[]⟩] 26) = x7 at *
  clear hT6 hE6 hA7
  go_upto_region 12 with (first
    | ((with_reducible refine (HSv.out _ hT7).mono ?_); rintro e y1 ⟨A1, cap1, rfl, hB1, hN1, hEa⟩)
    | ((with_reducible refine (HLd.out _ _ _ hB1).mono ?_); rintro e y2 ⟨up, rfl, hU2, hup, hEb⟩))
  have hTy := (hT7.ev hEa).ev hEb
  have hEy := (hE7.trans hEa).trans hEb
  clear hB1 hN1 hT7 hE7
  have qc := Lib.run_convert_bytes_const (P := Try.prog) y2 32 5 #[.int .u8 110, .int .u8 111] 2 2 Try.underlying32 Try.underlying5
  have hB2 : Bs (y2.alloc (.cells #[.int .u8 110, .int .u8 111] 5 (2, 3))) (some ⟨y2.heap.size, 0, none⟩) 2 2 [110, 111] := by
    refine ⟨rfl, Nat.le_refl _, by omega, by simp, fun _ => ⟨_, 0, rfl, by simp, fun i hi => ?_⟩⟩
    rw [cell_of_row _ _ _ #[.int .u8 110, .int .u8 111] 5 (2, 3) (heap_alloc_new y2 _)]
    match i, hi with
    | 0, _ => rfl
    | 1, _ => rfl
  go_upto_region 15 with ((with_reducible refine (HNo.out _ _ _ hB2).mono ?_); rintro e y3 ⟨rfl, hEc⟩)
  have hEd := (Ev.alloc y2 (.cells #[.int .u8 110, .int .u8 111] 5 (2, 3))).trans hEc
  have hT99 := hTy.ev hEd
  have hU3 := hU2.ev hEd
  have hE99 := hEy.trans hEd
  clear hTy hU2 hEy hEc hEd hB2
  go_upto_region 16 with ((with_reducible refine (H8.out up _ hU3).mono ?_); rintro e y4 ⟨rfl, hEe⟩)
  have hT5 := (hT99.ev hEe).ev (Ev.alloc y4 (.cells #[.int .i64 0, .int .i64 0, .string ⟨#[120]⟩] 26))
  have hE5 := (hE99.trans hEe).trans (Ev.alloc y4 (.cells #[.int .i64 0, .int .i64 0, .string ⟨#[120]⟩] 26))
  have HK5 := Lib.hid (HK.out (y4.alloc (.cells #[.int .i64 0, .int .i64 0, .string ⟨#[120]⟩] 26)))
  clear hU3 hT99 hE99 hEe
  go_wp2_with (first
    | ((with_reducible refine (HL1.out _ hT5).mono ?_); rintro e y5 ⟨rfl, rfl⟩)
    | ((with_reducible refine (HL2.out _ hT5).mono ?_); rintro e y6 ⟨rfl, rfl⟩)
    | ((with_reducible refine HK5.out.mono ?_); rintro e y7 ⟨rfl, hEk⟩))
  go_ret
  exact ⟨rfl, hE5.trans hEk⟩
end Go.Proofs.Ytdfoangkjeoomaa
