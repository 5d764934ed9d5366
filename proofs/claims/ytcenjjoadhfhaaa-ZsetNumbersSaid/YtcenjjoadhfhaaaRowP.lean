/-
  The contracts of row.Put, count and Get.
-/
import Derived.Test.YtcenjjoadhfhaaaVrow
import Derived.Test.YtcenjjoadhfhaaaRow
namespace Go.Proofs.Ytcenjjoadhfhaaa
open Go.RowKit
set_option linter.unusedVariables false

theorem rdStop3 (why pos : Nat) (h : why = 0) : rdStop why pos 3 pos = (3, pos) := by unfold rdStop; rw [if_pos h]
theorem take3 (L : List UInt8) (pos : Nat) : rdTake L 3 pos 1 = ([], 3, pos) := by
  unfold rdTake rdLeft rdStop
  simp

set_option maxRecDepth 100000 in
set_option maxHeartbeats 4000000 in
theorem row_count {p : Nat} {A : Option Addr} {n cap : Nat} {L : List UInt8} {why pos : Nat} (w : World) (h : Rd p A n cap L why pos w) :
    Calls Try.prog 53 #[.pointer (some ⟨p, 0, none⟩)] w fun e w' => e = .returned (.int .i64 ((rdCount L why pos).1 : Int)) ∧ Rd p A n cap L (rdCount L why pos).2.1 (rdCount L why pos).2.2 w' ∧ But [p] w w' := by
  have h0 := h.c0; have h1 := h.c1; have h2 := h.c2
  have hp := h.lt
  have hA : ∀ ad, A = some ad → ad.block ≠ w.heap.size := fun ad e => by have := (h.apart ad e).2; omega
  have hg : p ∉ [w.heap.size] := by simp; omega
  obtain ⟨w0, hw0⟩ : ∃ w0, w0 = w.alloc (.cells #[.slice A n cap, .int .i64 (why : Int), .int .i64 (pos : Int)] 69) := ⟨_, rfl⟩
  have hE0 : Ev w w0 := hw0 ▸ Ev.alloc w _
  have B : Rd w.heap.size A n cap L why pos w0 := by
    subst hw0
    exact ⟨heap_alloc_new w _, h.bs.below (Ev.alloc _ _), fun ad e => ⟨hA ad e, by have := (h.apart ad e).2; simp; omega⟩, h.inside, h.small⟩
  have HB := Lib.hid (reader_byte w0 B)
  have HL := fun w1 (h1 : Rd p A n cap L why pos w1) => reader_left w1 h1
  have HB2 := fun w1 (h1 : Rd p A n cap L why pos w1) => reader_byte w1 h1
  have hle : leVal (rdTake L why pos 1).1 < 9223372036854775808 := Nat.lt_of_lt_of_le (rdTake_val L why pos 1) (by decide)
  have HI := fun w1 => row_isCount (leVal (rdTake L why pos 1).1) w1 hle
  unfold rdCount
  by_cases hl : 0 < rdLeft L why pos
  · by_cases hc : 1 ≤ leVal (rdTake L why pos 1).1 ∧ leVal (rdTake L why pos 1).1 ≤ 6
    · rw [if_neg (fun c => c.2 hc)]
      rw [show (decide (1 ≤ leVal (rdTake L why pos 1).1) && decide (leVal (rdTake L why pos 1).1 ≤ 6)) = true by simp [hc.1, hc.2]] at HI
      have i1 : (0 : Int) < (rdLeft L why pos : Nat) := by omega
      generalize rdTake L why pos 1 = T at *
      generalize leVal T.1 = q at *
      generalize rdLeft L why pos = left at *
      have HL := Lib.hid HL
      have HB2 := Lib.hid HB2
      have HI := Lib.hid HI
      clear hl hc hle
      go_enter Try.func53, Try.ntmps53
      go_wp2_with (first | (rw [← hw0]; (with_reducible refine HB.out.mono ?_); rintro x w1 ⟨rfl, hR1, hB1⟩; have hP1 := (h.ev hE0).but hB1 hg (fun ad e => by simpa using hA ad e)) | ((with_reducible refine (HL.out _ hP1).mono ?_); rintro x w2 ⟨rfl, q2, rfl⟩) | ((with_reducible refine (HI.out _).mono ?_); rintro x w3 ⟨rfl, rfl⟩) | ((with_reducible refine (HB2.out _ (hP1.drewN _)).mono ?_); rintro x w4 ⟨rfl, hR4, hB4⟩))
      go_ret
      exact ⟨rfl, hR4, ((But.of_ev (K := [p]) hE0).trans hB1 (by simp)).then ((But.of_ev (Ev.drewN _ _)).then hB4)⟩
    · have hw : why = 0 := by
        by_cases e : why = 0
        · exact e
        · unfold rdLeft at hl; rw [if_neg e] at hl; omega
      rw [if_pos ⟨hl, hc⟩]
      rw [show (decide (1 ≤ leVal (rdTake L why pos 1).1) && decide (leVal (rdTake L why pos 1).1 ≤ 6)) = false by
        by_cases a : 1 ≤ leVal (rdTake L why pos 1).1
        · rw [decide_eq_false (p := leVal (rdTake L why pos 1).1 ≤ 6) (fun b => hc ⟨a, b⟩), Bool.and_false]
        · rw [decide_eq_false a, Bool.false_and]] at HI
      have HF : Hid (∀ w1, Rd p A n cap L why pos w1 → Calls Try.prog 59 #[.pointer (some ⟨p, 0, none⟩), .int .i64 3] w1 fun x w' => x = .returned (.tuple #[]) ∧ Rd p A n cap L 3 pos w' ∧ But [p] w1 w') := Lib.hid (fun w1 h1 => by have := reader_fail 3 w1 h1; rw [rdStop3 why pos hw] at this; exact this)
      have HB3 := fun w1 (h1 : Rd p A n cap L 3 pos w1) => reader_byte w1 h1
      rw [take3] at HB3
      have HB3 := Lib.hid HB3
      have i1 : (0 : Int) < (rdLeft L why pos : Nat) := by omega
      generalize rdTake L why pos 1 = T at *
      generalize leVal T.1 = q at *
      generalize rdLeft L why pos = left at *
      have HL := Lib.hid HL
      have HI := Lib.hid HI
      clear hl hc hle HB2 hw
      go_enter Try.func53, Try.ntmps53
      go_wp2_with (first | (rw [← hw0]; (with_reducible refine HB.out.mono ?_); rintro x w1 ⟨rfl, hR1, hB1⟩; have hP1 := (h.ev hE0).but hB1 hg (fun ad e => by simpa using hA ad e)) | ((with_reducible refine (HL.out _ hP1).mono ?_); rintro x w2 ⟨rfl, q2, rfl⟩) | ((with_reducible refine (HI.out _).mono ?_); rintro x w3 ⟨rfl, rfl⟩) | ((refine (HF.out _ (hP1.drewN _)).mono ?_); rintro x w4 ⟨rfl, hR4, hB4⟩) | ((with_reducible refine (HB3.out _ hR4).mono ?_); rintro x w5 ⟨rfl, hR5, hB5⟩))
      go_ret
      exact ⟨rfl, hR5, (((But.of_ev (K := [p]) hE0).trans hB1 (by simp)).then ((But.of_ev (Ev.drewN _ _)).then hB4)).then hB5⟩
  · rw [if_neg (fun c => hl c.1)]
    have i1 : ¬ (0 : Int) < (rdLeft L why pos : Nat) := by omega
    generalize rdTake L why pos 1 = T at *
    generalize leVal T.1 = q at *
    generalize rdLeft L why pos = left at *
    have HL := Lib.hid HL
    have HB2 := Lib.hid HB2
    clear hl hle HI
    go_enter Try.func53, Try.ntmps53
    go_wp2_with (first | (rw [← hw0]; (with_reducible refine HB.out.mono ?_); rintro x w1 ⟨rfl, hR1, hB1⟩; have hP1 := (h.ev hE0).but hB1 hg (fun ad e => by simpa using hA ad e)) | ((with_reducible refine (HL.out _ hP1).mono ?_); rintro x w2 ⟨rfl, q2, rfl⟩) | ((with_reducible refine (HB2.out _ (hP1.drewN _)).mono ?_); rintro x w4 ⟨rfl, hR4, hB4⟩))
    go_ret
    exact ⟨rfl, hR4, ((But.of_ev (K := [p]) hE0).trans hB1 (by simp)).then ((But.of_ev (Ev.drewN _ _)).then hB4)⟩

set_option maxRecDepth 100000 in
set_option maxHeartbeats 4000000 in
theorem row_get {p : Nat} {A : Option Addr} {n cap : Nat} {L : List UInt8} {why pos : Nat} (w : World) (h : Rd p A n cap L why pos w) :
    Calls Try.prog 38 #[.pointer (some ⟨p, 0, none⟩)] w fun e w' => ∃ v, e = .returned v ∧ Vrow w' v (rdRow L why pos).1 ∧ (∀ g, v.ownBlock = some g → w.heap.size ≤ g) ∧
      Rd p A n cap L (rdRow L why pos).2.1 (rdRow L why pos).2.2 w' ∧ But [p] w w' := by
  have hp := h.lt
  have hA : ∀ ad, A = some ad → ad.block ≠ p ∧ ad.block < w.heap.size := h.apart
  have HC := Lib.hid (row_count w h)
  have hc6 := rdCount_le L why pos
  have HRow : Hid (rdRow L why pos = rdLoop L (rdCount L why pos).1 [] (rdCount L why pos).2.1 (rdCount L why pos).2.2) := Lib.hid rfl
  generalize rdRow L why pos = RR at *
  generalize rdCount L why pos = T at *
  obtain ⟨m, e0, q0⟩ := T
  simp only at HC hc6 HRow
  go_enter Try.func38, Try.ntmps38
  go_wp2_with (first | ((with_reducible refine HC.out.mono ?_); rintro x w1 ⟨rfl, hR1, hB1⟩))
  go_loopw [9, 3] (fun i v wr => ∃ (k : Nat) (acc : List V) (e q : Nat), k ≤ m ∧ i = .int .i64 (k : Int) ∧ Vrow wr v acc ∧ acc.length = k ∧ (∀ g, v.ownBlock = some g → w.heap.size ≤ g) ∧ Rd p A n cap L e q wr ∧ But [p] w wr ∧ Hid (RR = rdLoop L (m - k) acc e q)) (fun i _ _ => m - (intOf i).toNat)
  case atStart => exact ⟨0, [], e0, q0, Nat.zero_le _, rfl, Vrow.nil_ _, rfl, (by simp [Value.ownBlock]), hR1, hB1, HRow⟩
  case round =>
    obtain ⟨k, acc, e, q, hk, rfl, hV, hacc, hv, hR, hB, HR⟩ := hrel
    by_cases hlt : k < m
    · have HG := fun w1 (h1 : Rd p A n cap L e q w1) => value_get w1 h1
      have hV0 := HR.out
      rw [show m - k = (m - (k + 1)) + 1 by omega] at hV0
      unfold rdLoop rightVV at hV0
      unfold rdX at hV0
      generalize rdVal L e q = X at *
      obtain ⟨⟨K, N, S0⟩, e1, q1⟩ := X
      simp only at HG hV0
      generalize (⟨S0.toArray⟩ : ByteArray) = S at *
      have HG := Lib.hid HG
      have HVR := fun w1 => value_right K N S w1
      generalize rightV K N S = rr at *
      have HVR := Lib.hid HVR
      have hgp : ∀ g, u3.ownBlock = some g → g ∉ [p] := fun g hg hm => by have := hv g hg; simp at hm; omega
      cases rr
      · have HF : Hid (RR = ([], (e1, q1))) := Lib.hid hV0
        clear hV0
        go_wp2_with (first | ((with_reducible refine (HG.out _ hR).mono ?_); rintro x w2 ⟨rfl, hR2, hB2⟩) | ((with_reducible refine (HVR.out _).mono ?_); rintro x w3 ⟨rfl, hE3⟩))
        go_ret
        have hE4 := (Ev.alloc w2 (.cells #[.int .i64 K, .int .i64 N, .string S] 50)).trans hE3
        rw [HF.out]
        exact ⟨_, rfl, Vrow.nil_ _, (by simp [Value.ownBlock]), hR2.ev hE4, (hB.then hB2).then (But.of_ev hE4)⟩
      · have HF : Hid (RR = rdLoop L (m - (k + 1)) (acc ++ [(K, N, S)]) e1 q1) := Lib.hid hV0
        clear hV0
        go_wp2_with (first | ((with_reducible refine (HG.out _ hR).mono ?_); rintro x w2 ⟨rfl, hR2, hB2⟩) | ((with_reducible refine (HVR.out _).mono ?_); rintro x w3 ⟨rfl, hE3⟩; have hE4 := (Ev.alloc w2 (.cells #[.int .i64 K, .int .i64 N, .string S] 50)).trans hE3; have B3 := (Boxed.new K N S w2).ev hE3; have c0 := B3.c0; have c1 := B3.c1; have c2 := B3.c2; have hV3 := ((hV.but hB2 hgp).ev hE4).ev (Ev.alloc w3 (.cells #[.int .i64 K, .int .i64 N, .string S] 50))) | (at_builtin; refine wpList_append_vals rfl (.tmp 16) (.tmp 18) rfl Try.underlying29 Try.infoVal u3 acc rfl hV3 (some ⟨w3.heap.size, 0, none⟩) 1 1 [(K, N, S)] rfl (Vs.made_one w3 K N S) (by simp only [List.length_cons, List.length_nil]; omega) ?_; intro v4 w4 hv4 hb4 hs4; obtain ⟨A4, n4, cap4, rfl⟩ := hv4.form))
        go_roundw
        case rel =>
          have hE5 := hE4.trans (Ev.alloc w3 (.cells #[.int .i64 K, .int .i64 N, .string S] 50))
          refine ⟨k + 1, acc ++ [(K, N, S)], e1, q1, by omega, by go_num, hv4, by simp [hacc], fun g hg => ?_, (hR2.ev hE5).but hb4 (fun hm => ?_) (fun ad ea hm => ?_), ((hB.then hB2).then (But.of_ev hE5)).trans hb4 (fun x hx => .inr (hv x (mem_foot.1 hx))), HF⟩
          · rcases hs4 g hg with h1 | h1
            · exact hv g h1
            · have h2 := hE5.size
              have h3 := hB2.size
              have h4 := hB.size
              omega
          · have := hv p (mem_foot.1 hm); omega
          · have := hv _ (mem_foot.1 hm); have := (hA ad ea).2; omega
        case measure => simp [intOf]; omega
    · obtain rfl : k = m := by omega
      have HF : Hid (RR = (acc, e, q)) := Lib.hid (by rw [HR.out, Nat.sub_self]; rfl)
      go_wp2
      go_ret
      rw [HF.out]
      exact ⟨_, rfl, hV, hv, hR, hB⟩
end Go.Proofs.Ytcenjjoadhfhaaa
