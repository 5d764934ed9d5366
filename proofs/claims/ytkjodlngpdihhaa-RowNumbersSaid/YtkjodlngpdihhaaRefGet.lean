/-
  The document's own Byte, Short, Long, Text and Get.
-/
import Derived.Test.YtkjodlngpdihhaaRefRaw
namespace Go.Proofs.Ytkjodlngpdihhaa
open Go.RowKit
set_option linter.unusedVariables false
variable {p : Nat} {A : Option Addr} {n cap : Nat} {L : List UInt8} {why pos : Nat} {w w' : World}

set_option maxRecDepth 100000 in
theorem refr_byte (w : World) (h : Rqs p A n cap L why pos w) :
    Calls Try.prog 48 #[.pointer (some ⟨p, 0, none⟩)] w fun e w' => e = .returned (.int .i64 (leVal (rdTake L why pos 1).1 : Int)) ∧
      Rqs p A n cap L (rdTake L why pos 1).2.1 (rdTake L why pos 1).2.2 w' ∧ But [p] w w' := by
  have HC := Lib.hid (ref_number 1 w h (by omega))
  have hv := rdTake_val L why pos 1
  generalize rdTake L why pos 1 = T at *
  go_enter Try.func48, Try.ntmps48
  go_wp2_with (refine HC.out.mono ?_; rintro x w' ⟨rfl, hR, hB⟩)
  go_ret
  exact ⟨rfl, hR, hB⟩

set_option maxRecDepth 100000 in
theorem refr_short (w : World) (h : Rqs p A n cap L why pos w) :
    Calls Try.prog 78 #[.pointer (some ⟨p, 0, none⟩)] w fun e w' => e = .returned (.int .i64 (leVal (rdTake L why pos 2).1 : Int)) ∧
      Rqs p A n cap L (rdTake L why pos 2).2.1 (rdTake L why pos 2).2.2 w' ∧ But [p] w w' := by
  have HC := Lib.hid (ref_number 2 w h (by omega))
  have hv := rdTake_val L why pos 2
  generalize rdTake L why pos 2 = T at *
  go_enter Try.func78, Try.ntmps78
  go_wp2_with (refine HC.out.mono ?_; rintro x w' ⟨rfl, hR, hB⟩)
  go_ret
  exact ⟨rfl, hR, hB⟩

set_option maxRecDepth 100000 in
theorem refr_long (w : World) (h : Rqs p A n cap L why pos w) :
    Calls Try.prog 66 #[.pointer (some ⟨p, 0, none⟩)] w fun e w' => e = .returned (.int .i64 (wrap64 (leVal (rdTake L why pos 8).1 : Int))) ∧
      Rqs p A n cap L (rdTake L why pos 8).2.1 (rdTake L why pos 8).2.2 w' ∧ But [p] w w' := by
  have HC := Lib.hid (ref_number 8 w h (by omega))
  generalize rdTake L why pos 8 = T at *
  go_enter Try.func66, Try.ntmps66
  go_wp2_with (refine HC.out.mono ?_; rintro x w' ⟨rfl, hR, hB⟩)
  go_ret
  exact ⟨rfl, hR, hB⟩

/-- What the flag says of the error. -/
theorem Rqs.flag (h : Rqs p A n cap L why pos w) : w.cell? ⟨p, 2, none⟩ = some (.bool (why != 0)) := by
  obtain ⟨at_, r, y, z, h⟩ := h
  have hc := h.c2
  by_cases hw : why = 0
  · obtain ⟨rfl, _⟩ := h.says.no hw
    simpa [hw] using hc
  · obtain ⟨rfl, _⟩ := h.says.yes hw
    have : (why != 0) = true := bne_iff_ne.2 hw
    rw [this]; exact hc
theorem take_err {L : List UInt8} {why pos k : Nat} (h : (rdTake L why pos k).2.1 ≠ 0) (hk : 0 < k) : (rdTake L why pos k).1 = [] := by
  by_cases hk2 : k ≤ rdLeft L why pos
  · simp only [rdTake, hk2, if_true] at h
    simp only [rdLeft, h, if_false] at hk2
    omega
  · simp only [rdTake, hk2, if_false]
theorem take_ok {L : List UInt8} {why pos k : Nat} (h : (rdTake L why pos k).2.1 = 0) : why = 0 := by
  by_cases hw : why = 0
  · exact hw
  · by_cases hk2 : k ≤ rdLeft L why pos
    · simpa only [rdTake, hk2, if_true] using h
    · simp [rdTake, hk2, rdStop, hw] at h
theorem take_refused (L : List UInt8) (why pos k : Nat) (hw : why ≠ 0) (hk : 0 < k) : rdTake L why pos k = ([], why, pos) := by
  have h2 : ¬ k ≤ rdLeft L why pos := by simp only [rdLeft, hw, if_false]; omega
  simp only [rdTake, h2, if_false, rdStop, hw]

set_option maxRecDepth 100000 in
set_option maxHeartbeats 1600000 in
theorem refr_text (most : Nat) (w : World) (h : Rqs p A n cap L why pos w) (hm : most ≤ 65535) :
    Calls Try.prog 67 #[.pointer (some ⟨p, 0, none⟩), .int .i64 (most : Int)] w fun e w' => e = .returned (.string ⟨(rdText L why pos most).1.toArray⟩) ∧
      Rqs p A n cap L (rdText L why pos most).2.1 (rdText L why pos most).2.2 w' ∧ But [p] w w' := by
  have HC := Lib.hid (refr_short w h)
  have hv := rdTake_val L why pos 2
  obtain ⟨at_, r, y, z, h0⟩ := h
  have h1 := h0.c1
  by_cases hk : most < leVal (rdTake L why pos 2).1
  · -- too long: it is refused where it began
    have hok : (rdTake L why pos 2).2.1 = 0 := by
      rcases Nat.eq_zero_or_pos (rdTake L why pos 2).2.1 with h2 | h2
      · exact h2
      · rw [take_err (by omega) (by decide)] at hk
        simp [leVal] at hk
    have hpos : at_ = pos := (h0.says.no (take_ok hok)).2
    subst hpos
    have e : rdText L why at_ most = ([], 3, at_) := by
      have e1 : rdStop (rdTake L why at_ 2).2.1 (rdTake L why at_ 2).2.2 3 at_ = (3, at_) := by simp only [rdStop, hok, if_true]
      simp only [rdText, hk, if_true, e1]
      exact take_refused L 3 at_ _ (by decide) (by omega)
    rw [e]
    generalize rdTake L why at_ 2 = T at *
    obtain ⟨M, e1, q1⟩ := T
    simp only at *
    subst hok
    have hS := fun w1 (h1 : Rqs p A n cap L 0 q1 w1) => ref_refuse 3 at_ w1 h1 (by decide)
    simp only [show ((3 : Nat) : Int) = 3 from rfl, show rdStop 0 q1 3 at_ = (3, at_) from rfl] at hS
    have HS := Lib.hid hS
    generalize leVal M = k at *
    clear hS e
    go_enter Try.func67, Try.ntmps67
    go_wp2_with (first | ((with_reducible refine HC.out.mono ?_); rintro x w1 ⟨rfl, hR1, hB1⟩; have f2 := hR1.flag; simp only [show ((0 : Nat) != 0) = false from rfl] at f2) | ((with_reducible refine (HS.out _ hR1).mono ?_); rintro x w2 ⟨rfl, hR2, hB2⟩))
    go_ret
    exact ⟨rfl, hR2, hB1.then hB2⟩
  · have e : rdText L why pos most = rdTake L (rdTake L why pos 2).2.1 (rdTake L why pos 2).2.2 (leVal (rdTake L why pos 2).1) := by simp [rdText, hk]
    rw [e]
    generalize rdTake L why pos 2 = T at *
    obtain ⟨M, e1, q1⟩ := T
    simp only at *
    generalize leVal M = k at *
    have HT := Lib.hid (fun w1 (h1 : Rqs p A n cap L e1 q1 w1) => ref_raw k w1 h1 (by omega))
    clear e
    by_cases he : e1 = 0
    · subst he
      go_enter Try.func67, Try.ntmps67
      go_wp2_with (first | ((with_reducible refine HC.out.mono ?_); rintro x w1 ⟨rfl, hR1, hB1⟩; have f2 := hR1.flag; simp only [show ((0 : Nat) != 0) = false from rfl] at f2) | ((with_reducible refine (HT.out _ hR1).mono ?_); rintro x w3 ⟨A3, n3, cap3, rfl, hbs, hR3, hB3⟩; have hst := hbs.str (P := Try.prog) 33 9 5 Try.underlying33 Try.underlying5 Try.underlying9))
      go_ret
      exact ⟨rfl, hR3, hB1.then hB3⟩
    · have hb : (e1 != 0) = true := bne_iff_ne.2 he
      go_enter Try.func67, Try.ntmps67
      go_wp2_with (first | ((with_reducible refine HC.out.mono ?_); rintro x w1 ⟨rfl, hR1, hB1⟩; have f2 := hR1.flag; rw [hb] at f2) | ((with_reducible refine (HT.out _ hR1).mono ?_); rintro x w3 ⟨A3, n3, cap3, rfl, hbs, hR3, hB3⟩; have hst := hbs.str (P := Try.prog) 33 9 5 Try.underlying33 Try.underlying5 Try.underlying9))
      go_ret
      exact ⟨rfl, hR3, hB1.then hB3⟩
end Go.Proofs.Ytkjodlngpdihhaa
