/-
  The document's own Get (chapter 5).
-/
import Derived.Test.YtkjodlngpdihhaaRef5P
namespace Go.Proofs.Ytkjodlngpdihhaa
open Go.RowKit
set_option linter.unusedVariables false

/-- What the rounds of the document's Get come to. -/
def RestIs (L : List UInt8) (RR : List V × Nat × Nat) (m : Nat) (acc : List V) (e q : Nat) : Prop := (e = 0 ∧ RR = rdLoop L m acc 0 q) ∨ (e ≠ 0 ∧ RR = ([], e, q))

set_option maxRecDepth 100000 in
set_option maxHeartbeats 8000000 in
theorem ref5_get {p : Nat} {A : Option Addr} {n cap : Nat} {L : List UInt8} {why pos : Nat} (w : World) (h : Rqs p A n cap L why pos w) :
    Calls Try.prog 24 #[.pointer (some ⟨p, 0, none⟩)] w fun e w' => ∃ v, e = .returned v ∧ Vrow w' v (rdRow L why pos).1 ∧ (∀ g, v.ownBlock = some g → w.heap.size ≤ g) ∧
      Rqs p A n cap L (rdRow L why pos).2.1 (rdRow L why pos).2.2 w' ∧ But [p] w w' := by
  have hp := h.lt
  have hA := h.apart
  have HB := Lib.hid (refr_byte w h)
  have hat : ∃ a : Nat, w.cell? ⟨p, 1, none⟩ = some (.int .i64 (a : Int)) ∧ (why = 0 → a = pos) := by
    obtain ⟨a, r, y, z, h⟩ := h
    exact ⟨a, h.c1, fun e => (h.says.no e).2⟩
  obtain ⟨a, c1, ha⟩ := hat
  have hv := rdTake_val L why pos 1
  -- what stands behind the count
  have key : ∃ (T : List UInt8 × Nat × Nat) (k : Nat), rdTake L why pos 1 = T ∧ leVal T.1 = k ∧ k < 256 ∧
      ((T.2.1 = 0 ∧ a = pos ∧ 1 ≤ k ∧ k ≤ 6 ∧ rdRow L why pos = rdLoop L k [] 0 T.2.2) ∨ (T.2.1 = 0 ∧ a = pos ∧ ¬ (1 ≤ k ∧ k ≤ 6) ∧ rdRow L why pos = ([], 3, pos)) ∨ (T.2.1 ≠ 0 ∧ k = 0 ∧ rdRow L why pos = ([], T.2))) := by
    refine ⟨_, _, rfl, rfl, hv, ?_⟩
    by_cases he : (rdTake L why pos 1).2.1 = 0
    · obtain ⟨hw, hl, hp2⟩ := take_one he
      by_cases hc : 1 ≤ leVal (rdTake L why pos 1).1 ∧ leVal (rdTake L why pos 1).1 ≤ 6
      · refine .inl ⟨he, ha hw, hc.1, hc.2, ?_⟩
        unfold rdRow rdCount
        rw [if_neg (fun x => x.2 hc)]
        simp only [he]
      · refine .inr (.inl ⟨he, ha hw, hc, ?_⟩)
        unfold rdRow rdCount
        rw [if_pos ⟨hl, hc⟩]
        rfl
    · have h0 := take_err he (by decide)
      refine .inr (.inr ⟨he, by rw [h0]; rfl, ?_⟩)
      have hl : ¬ (0 < rdLeft L why pos ∧ ¬ (1 ≤ leVal (rdTake L why pos 1).1 ∧ leVal (rdTake L why pos 1).1 ≤ 6)) := by
        rintro ⟨hl, _⟩
        apply he
        unfold rdTake
        rw [if_pos (by omega)]
        unfold rdLeft at hl
        by_cases hw : why = 0
        · exact hw
        · rw [if_neg hw] at hl; omega
      unfold rdRow rdCount
      rw [if_neg hl, h0]
      rfl
  obtain ⟨T, k, hT, hk, hk256, hcase⟩ := key
  rw [hT, hk] at HB
  generalize rdRow L why pos = RR at *
  obtain ⟨M, e0, q0⟩ := T
  simp only at HB hcase
  clear hT hv ha hk
  rcases hcase with ⟨rfl, rfl, k1, k6, HRR⟩ | ⟨rfl, rfl, hkn, HRR⟩ | ⟨he, rfl, HRR⟩
  · have HRR := Lib.hid HRR
    have j1 : (0 : Int) < (k : Int) := by omega
    have j6 : ¬ (6 : Int) < (k : Int) := by omega
    have j0 : ¬ (k : Int) = 0 := by omega
    have b1 : ((k : Int) == 0) = false := beq_eq_false_iff_ne.2 j0
    have b2 : decide ((6 : Int) < (k : Int)) = false := decide_eq_false j6
    go_enter Try.func24, Try.ntmps24
    go_wp2_with (first | ((with_reducible refine HB.out.mono ?_); rintro x w1 ⟨rfl, hR1, hB1⟩; have f2 := hR1.flag; simp only [show ((0 : Nat) != 0) = false from rfl] at f2))
    go_loopw [4, 5] (fun i v wr => ∃ (m : Nat) (acc : List V) (e q : Nat), m ≤ k ∧ i = .int .i64 (m : Int) ∧ Vrow wr v acc ∧ acc.length + m = k ∧ (∀ g, v.ownBlock = some g → w.heap.size ≤ g) ∧ Rqs p A n cap L e q wr ∧ But [p] w wr ∧ Hid (RestIs L RR m acc e q)) (fun i _ _ => (intOf i).toNat)
    case atStart => exact ⟨k, [], 0, q0, Nat.le_refl _, rfl, Vrow.nil_ _, by simp, (by simp [Value.ownBlock]), hR1, hB1, Lib.hid (.inl ⟨rfl, HRR.out⟩)⟩
    case round =>
      obtain ⟨m, acc, e, q, hm, rfl, hV, hacc, hv, hR, hB, HR⟩ := hrel
      have fl := hR.flag
      by_cases he : e = 0
      · subst he
        simp only [show ((0 : Nat) != 0) = false from rfl] at fl
        by_cases hm0 : m = 0
        · subst hm0
          have HF : Hid (RR = (acc, 0, q)) := Lib.hid (by
            rcases HR.out with ⟨_, h1⟩ | ⟨h1, _⟩
            · exact h1
            · exact absurd rfl h1)
          go_wp2
          go_ret
          rw [HF.out]
          exact ⟨_, rfl, hV, hv, hR, hB⟩
        · have m1 : (0 : Int) < (m : Int) := by omega
          have hV0 : RR = rdLoop L ((m - 1) + 1) acc 0 q := by
            rw [show m - 1 + 1 = m by omega]
            rcases HR.out with ⟨_, h1⟩ | ⟨h1, _⟩
            · exact h1
            · exact absurd rfl h1
          have HG := fun w1 (h1 : Rqs p A n cap L 0 q w1) => refr_get w1 h1
          have hok := rdVal_ok L 0 q
          unfold rdLoop rightVV at hV0
          unfold rdX at hV0
          generalize rdVal L 0 q = X at *
          obtain ⟨⟨K, N, S0⟩, e1, q1⟩ := X
          simp only at HG hV0 hok
          generalize (⟨S0.toArray⟩ : ByteArray) = S at *
          rw [hok] at hV0
          have HRN : Hid (RestIs L RR (m - 1) (acc ++ [(K, N, S)]) e1 q1) := Lib.hid (by
            by_cases h0 : e1 = 0
            · subst h0
              exact .inl ⟨rfl, hV0⟩
            · rw [beq_eq_false_iff_ne.2 h0] at hV0
              exact .inr ⟨h0, hV0⟩)
          have HG := Lib.hid HG
          clear hV0 hok
          have hgp : ∀ g, u5.ownBlock = some g → g ∉ [p] := fun g hg hm => by have := hv g hg; simp at hm; omega
          go_wp2_with (first | ((with_reducible refine (HG.out _ hR).mono ?_); rintro x w2 ⟨rfl, hR2, hB2⟩; have hV3 := (hV.but hB2 hgp).ev (Ev.alloc w2 (.cells #[.int .i64 K, .int .i64 N, .string S] 61))) | (at_builtin; refine wpList_append_vals rfl (.tmp 39) (.tmp 42) rfl Try.underlying35 Try.infoVal u5 acc rfl hV3 (some ⟨w2.heap.size, 0, none⟩) 1 1 [(K, N, S)] rfl (Vs.made_one w2 K N S) (by simp only [List.length_cons, List.length_nil]; omega) ?_; intro v4 w4 hv4 hb4 hs4; obtain ⟨A4, n4, cap4, rfl⟩ := hv4.form))
          go_roundw
          case rel =>
            have hE5 := Ev.alloc w2 (.cells #[.int .i64 K, .int .i64 N, .string S] 61)
            refine ⟨m - 1, acc ++ [(K, N, S)], e1, q1, by omega, by go_num, hv4, by simp; omega, fun g hg => ?_, (hR2.ev hE5).but hb4 (fun hm => ?_) (fun ad ea hm => ?_), ((hB.then hB2).then (But.of_ev hE5)).trans hb4 (fun x hx => .inr (hv x (mem_foot.1 hx))), HRN⟩
            · rcases hs4 g hg with h1 | h1
              · exact hv g h1
              · have h2 := hE5.size
                have h3 := hB2.size
                have h4 := hB.size
                omega
            · have := hv p (mem_foot.1 hm); omega
            · have := hv _ (mem_foot.1 hm); have := (hA ad ea).2; omega
          case measure => simp [intOf]; omega
      · have hb : (e != 0) = true := bne_iff_ne.2 he
        rw [hb] at fl
        have HF : Hid (RR = ([], e, q)) := Lib.hid (by
          rcases HR.out with ⟨h1, _⟩ | ⟨_, h1⟩
          · exact absurd h1 he
          · exact h1)
        clear hb he
        by_cases hm0 : m = 0
        · subst hm0
          go_wp2
          go_ret
          rw [HF.out]
          exact ⟨_, rfl, Vrow.nil_ _, (by simp [Value.ownBlock]), hR, hB⟩
        · have m1 : (0 : Int) < (m : Int) := by omega
          go_wp2
          go_ret
          rw [HF.out]
          exact ⟨_, rfl, Vrow.nil_ _, (by simp [Value.ownBlock]), hR, hB⟩
  · have HF : ∀ w1, Rqs p A n cap L 0 q0 w1 → Calls Try.prog 49 #[.pointer (some ⟨p, 0, none⟩), .int .i64 3, .int .i64 (a : Int)] w1 fun x w' => x = .returned (.tuple #[]) ∧ Rqs p A n cap L 3 a w' ∧ But [p] w1 w' := fun w1 h1 => by
      have := ref_failat 3 a w1 h1 (by decide)
      exact this
    have HF := Lib.hid HF
    have HRR := Lib.hid HRR
    have fin : ∀ w1 w2, Rqs p A n cap L 3 a w2 → But [p] w w1 → But [p] w1 w2 → ∃ v, Ending.returned (.slice none 0 0) = .returned v ∧ Vrow w2 v RR.1 ∧ (∀ g, v.ownBlock = some g → w.heap.size ≤ g) ∧ Rqs p A n cap L RR.2.1 RR.2.2 w2 ∧ But [p] w w2 := fun w1 w2 h1 h2 h3 => by
      rw [HRR.out]
      exact ⟨_, rfl, Vrow.nil_ _, (by simp [Value.ownBlock]), h1, h2.then h3⟩
    have fin := Lib.hid fin
    by_cases hk0 : k = 0
    · subst hk0
      go_enter Try.func24, Try.ntmps24
      go_wp2_with (first | ((with_reducible refine HB.out.mono ?_); rintro x w1 ⟨rfl, hR1, hB1⟩; have f2 := hR1.flag; simp only [show ((0 : Nat) != 0) = false from rfl] at f2) | ((with_reducible refine (HF.out _ hR1).mono ?_); rintro x w2 ⟨rfl, hR2, hB2⟩; have f3 := hR2.flag; simp only [show ((3 : Nat) != 0) = true from rfl] at f3))
      go_loopw [4, 5] (fun i v wr => i = .int .i64 0 ∧ v = .slice none 0 0 ∧ wr = w2) (fun i _ _ => (intOf i).toNat)
      case atStart => exact ⟨rfl, rfl, rfl⟩
      case round =>
        obtain ⟨rfl, rfl, rfl⟩ := hrel
        go_wp2
        go_ret
        exact fin.out _ _ hR2 hB1 hB2
    · have k7 : 6 < k := by
        by_cases h6 : k ≤ 6
        · exact absurd ⟨by omega, h6⟩ hkn
        · omega
      have j1 : (0 : Int) < (k : Int) := by omega
      have j6 : (6 : Int) < (k : Int) := by omega
      have j0 : ¬ (k : Int) = 0 := by omega
      go_enter Try.func24, Try.ntmps24
      go_wp2_with (first | ((with_reducible refine HB.out.mono ?_); rintro x w1 ⟨rfl, hR1, hB1⟩; have f2 := hR1.flag; simp only [show ((0 : Nat) != 0) = false from rfl] at f2) | ((with_reducible refine (HF.out _ hR1).mono ?_); rintro x w2 ⟨rfl, hR2, hB2⟩; have f3 := hR2.flag; simp only [show ((3 : Nat) != 0) = true from rfl] at f3))
      go_loopw [4, 5] (fun i v wr => i = .int .i64 (k : Int) ∧ v = .slice none 0 0 ∧ wr = w2) (fun i _ _ => (intOf i).toNat)
      case atStart => exact ⟨rfl, rfl, rfl⟩
      case round =>
        obtain ⟨rfl, rfl, rfl⟩ := hrel
        go_wp2
        go_ret
        exact fin.out _ _ hR2 hB1 hB2
  · have HRR := Lib.hid HRR
    have hb : (e0 != 0) = true := bne_iff_ne.2 he
    have HE := Lib.hid he
    clear he
    go_enter Try.func24, Try.ntmps24
    go_wp2_with (first | ((with_reducible refine HB.out.mono ?_); rintro x w1 ⟨rfl, hR1, hB1⟩; have f2 := hR1.flag; rw [hb] at f2))
    go_loopw [4, 5] (fun i v wr => i = .int .i64 0 ∧ v = .slice none 0 0 ∧ wr = w1) (fun i _ _ => (intOf i).toNat)
    case atStart => exact ⟨rfl, rfl, rfl⟩
    case round =>
      obtain ⟨rfl, rfl, rfl⟩ := hrel
      go_wp2
      go_ret
      rw [HRR.out]
      exact ⟨_, rfl, Vrow.nil_ _, (by simp [Value.ownBlock]), hR1, hB1⟩
end Go.Proofs.Ytkjodlngpdihhaa
