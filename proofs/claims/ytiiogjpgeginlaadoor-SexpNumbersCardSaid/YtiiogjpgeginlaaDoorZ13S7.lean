/-
  Texts that belong together: The document's own number. The document's own number at a place: what the plain number gives of the rest. The document's own text at a place. Boxes of structs; the document's own leaf.
-/
import Derived.Test.YtiiogjpgeginlaaDoorZ12S7
import Derived.Deep.RegionLaw
import Derived.Test.YtiiogjpgeginlaaDoorZ10S7
namespace Go.Proofs.YtiiogjpgeginlaaDoor
open Go.RowKit
set_option linter.unusedVariables false

theorem sxDigits_at (l : By) (k : Nat) (c : UInt8) (h : l[k]? = some c) (hr : k < sxRun sxDigit l) : (sxDigits l)[k]? = some c := by
  unfold sxDigits
  rw [List.getElem?_take, if_pos hr, h]
/-- What is known of the digits that have been read. -/
def NumSt (D : By) (k u : Nat) (fine : Bool) : Prop := if fine then sxBelow D 0 = sxBelow (D.drop k) (-(u : Int)) ∧ u ≤ 9223372036854775808 else sxBelow D 0 = none

theorem u64w (x : Int) : ∃ n : Nat, IntKind.u64.wrap x = (n : Int) ∧ n < 18446744073709551616 := ⟨(x % 18446744073709551616).toNat, by simp [IntKind.wrap, IntKind.signed, IntKind.bits]; omega, by omega⟩
theorem u64neg {u : Nat} (h : u ≤ 9223372036854775808) : wrap64 (IntKind.u64.wrap (-(u : Int))) = -(u : Int) := by
  simp [IntKind.wrap, IntKind.signed, IntKind.bits, wrap64]
  omega
theorem NumSt.bad {D : By} {k u u' d : Nat} {fine : Bool} (h : NumSt D k u fine) (hs : ∀ m : Int, sxBelow (D.drop k) m = if m < -((9223372036854775808 - (d : Int)) / 10) then none else sxBelow (D.drop (k + 1)) (m * 10 - (d : Int))) (ht : (9223372036854775808 - (d : Int)) / 10 < (u : Int)) : NumSt D (k + 1) u' false := by
  unfold NumSt at h ⊢
  simp only [Bool.false_eq_true, if_false]
  cases fine
  · exact h
  · rw [h.1, hs, if_pos (by omega)]
theorem NumSt.good {D : By} {k u d : Nat} {fine : Bool} (h : NumSt D k u fine) (hs : ∀ m : Int, sxBelow (D.drop k) m = if m < -((9223372036854775808 - (d : Int)) / 10) then none else sxBelow (D.drop (k + 1)) (m * 10 - (d : Int))) (hd : d ≤ 9) (ht : ¬ (9223372036854775808 - (d : Int)) / 10 < (u : Int)) : NumSt D (k + 1) (u * 10 + d) fine := by
  unfold NumSt at h ⊢
  cases fine
  · exact h
  · simp only [if_true] at h ⊢
    refine ⟨?_, by omega⟩
    rw [h.1, hs, if_neg (by omega), show (-(u : Int)) * 10 - (d : Int) = -((u * 10 + d : Nat) : Int) by omega]
/-- What comes of the digits. -/
theorem NumSt.out {D : By} {u : Nat} {fine : Bool} (h : NumSt D D.length u fine) (plus : Bool) : (D.length = 0 ∨ fine = false ∨ 9223372036854775808 < u ∨ (plus = true ∧ 9223372036854775807 < u)) → sxNum plus D = sxWrong 12 0 := by
  intro hc
  unfold NumSt at h
  unfold sxNum
  cases fine
  · simp only [Bool.false_eq_true, if_false] at h
    rw [h]
  · simp only [if_true] at h
    obtain ⟨h1, h2⟩ := h
    rw [List.drop_of_length_le (Nat.le_refl _)] at h1
    rw [h1]
    simp only [sxBelow]
    rcases hc with hc | hc | hc | ⟨hc, hu⟩
    · rw [List.eq_nil_of_length_eq_zero hc]; rfl
    · cases hc
    · omega
    · rw [if_pos]
      have : u = 9223372036854775808 := by omega
      subst this
      subst hc
      simp
theorem NumSt.fit {D : By} {u : Nat} (h : NumSt D D.length u true) (plus : Bool) (hk : D.length ≠ 0) (hu : plus = true → u ≤ 9223372036854775807) : u ≤ 9223372036854775808 ∧ sxNum plus D = if plus then ⟨3, [], (u : Int), D.length, 0, 0⟩ else ⟨3, [], -(u : Int), 1 + D.length, 0, 0⟩ := by
  unfold NumSt at h
  simp only [if_true] at h
  obtain ⟨h1, h2⟩ := h
  refine ⟨h2, ?_⟩
  rw [List.drop_of_length_le (Nat.le_refl _)] at h1
  unfold sxNum
  rw [h1]
  simp only [sxBelow]
  have he : D.isEmpty = false := by
    cases D with
    | nil => exact absurd rfl hk
    | cons a l => rfl
  cases plus
  · simp [he]
  · have := hu rfl
    rw [if_neg (by rw [he]; simp; omega)]
    simp

set_option maxRecDepth 100000 in
set_option maxHeartbeats 4000000 in
theorem rf_number_ (s : ByteArray) (w : World) (hs : s.size ≤ 100000) (i from_ : Nat) (c0 : UInt8) (hi : i < s.size) (hc0 : s.data.toList[i]? = some c0) (minus : Bool) (hm : (c0.toNat == 45) = minus) (hf : from_ = if minus then i + 1 else i) :
    Calls Tryd.prog 51 #[.string s, .int .i64 (i : Int)] w fun e w' =>
      ∃ j : Nat, e = .returned (.tuple #[.int .i64 (sxNum (!minus) (sxDigits (s.data.toList.drop from_))).n, .int .i64 (j : Int), .bool ((sxNum (!minus) (sxDigits (s.data.toList.drop from_))).why == 0)]) ∧
        ((sxNum (!minus) (sxDigits (s.data.toList.drop from_))).why = 0 → j = i + (sxNum (!minus) (sxDigits (s.data.toList.drop from_))).size) ∧ Ev w w' := by
  have hll : s.data.toList.length = s.size := by rw [Array.length_toList]; rfl
  have HL := Lib.hid hll
  have hidx : ∀ hh, s[i]'hh = c0 := fun hh => by
    have := sx_at s i hh
    rw [this] at hc0
    exact Option.some.inj hc0
  have hfs : from_ ≤ s.size := by rw [hf]; split <;> omega
  have hDl := sxDigits_len (s.data.toList.drop from_)
  have hDa := sxDigits_all (s.data.toList.drop from_)
  have hDat := fun k c h hr => sxDigits_at (s.data.toList.drop from_) k c h hr
  have hDr := sxRun_le sxDigit (s.data.toList.drop from_)
  rw [List.length_drop, hll] at hDr
  have HRun : Hid (∀ k, sxRun sxDigit ((s.data.toList.drop from_).drop k) = sxRun sxDigit (s.data.toList.drop (from_ + k))) := Lib.hid fun k => by rw [List.drop_drop]
  generalize hD : sxDigits (s.data.toList.drop from_) = D at *
  rw [← hDl] at hDr hDat
  have HDl := Lib.hid hDl
  have HDa := Lib.hid hDa
  have HDat := Lib.hid hDat
  have HDig := Lib.hid rf_digit
  clear hc0 hD hDl hDa hDat hll
  cases minus
  · obtain rfl : from_ = i := hf
    have e1 : ¬ ((c0.toNat : Int) = 45) := by have := beq_eq_false_iff_ne.1 hm; omega
    have e1' : ((c0.toNat : Int) == 45) = false := beq_eq_false_iff_ne.2 e1
    have hi0 : (0 : Int) ≤ (from_ : Int) := by omega
    clear hm
    simp only [Bool.not_false]
    go_enter Tryd.func51, Tryd.ntmps51
    go_wp2
    go_loop [7, 9, 10] (fun iv uv fv => ∃ (k u : Nat) (fine : Bool), k ≤ D.length ∧ iv = .int .i64 ((from_ + k : Nat) : Int) ∧ uv = .int .u64 (u : Int) ∧ fv = .bool fine ∧ u < 18446744073709551616 ∧ Hid (NumSt D k u fine) ∧ Hid (sxRun sxDigit (s.data.toList.drop (from_ + k)) + k = D.length)) (fun iv _ _ => s.size - (intOf iv).toNat)
    case atStart => exact ⟨0, 0, true, Nat.zero_le _, rfl, rfl, rfl, by omega, Lib.hid ⟨rfl, by omega⟩, Lib.hid (by rw [HDl.out]; rfl)⟩
    case round =>
      obtain ⟨k, u, fine, hk, rfl, rfl, rfl, hu, HN, HK⟩ := hrel
      obtain ⟨j, hj⟩ : ∃ j, j = from_ + k := ⟨_, rfl⟩
      rw [← hj] at HK ⊢
      have hjb : j ≤ 300000 := by have := hDr; omega
      have HJ := Lib.hid hj
      clear hj
      by_cases hlt : j < s.size
      · have hat := sx_at s j hlt
        obtain ⟨c, hc⟩ : ∃ c, s[j] = c := ⟨_, rfl⟩
        have hidx2 : ∀ hh, s[j]'hh = c := fun _ => hc
        rw [hc] at hat
        have hst := sxRun_step sxDigit s.data.toList j c hat
        have HC := HDig.out c
        have hj0 : (0 : Int) ≤ (j : Int) := by omega
        have hj1 : (j : Int) < (s.size : Int) := by omega
        cases hdg : sxDigit c
        · rw [hdg] at HC hst
          simp only [Bool.false_eq_true, if_false] at hst
          have hkD : k = D.length := by have := HK.out; rw [hst] at this; omega
          have HC := Lib.hid HC
          obtain rfl : k = D.length := hkD
          have HNN := HN.out
          by_cases hz : D.length = 0
          · have HX : Hid (sxNum true D = sxWrong 12 0) := Lib.hid (HNN.out true (.inl hz))
            have ej : j = from_ := by rw [HJ.out, hz]; rfl
            have HZ := Lib.hid hz
            clear hz HNN
            subst ej
            go_wp2_with (first | ((with_reducible refine (HC.out _).mono ?_); rintro x w1 ⟨rfl, rfl⟩))
            go_ret3
            exact ⟨j, by rw [HX.out]; rfl, fun h => (by rw [HX.out] at h; cases h), Ev.refl _⟩
          · have ej : ¬ ((j : Int) = (from_ : Int)) := by rw [HJ.out]; omega
            have ej' : ((j : Int) == (from_ : Int)) = false := beq_eq_false_iff_ne.2 ej
            cases fine
            · have HX : Hid (sxNum true D = sxWrong 12 0) := Lib.hid (HNN.out true (.inr (.inl rfl)))
              clear HNN
              go_wp2_with (first | ((with_reducible refine (HC.out _).mono ?_); rintro x w1 ⟨rfl, rfl⟩))
              go_ret3
              exact ⟨j, by rw [HX.out]; rfl, fun h => (by rw [HX.out] at h; cases h), Ev.refl _⟩
            · by_cases hbig : 9223372036854775807 < u
              · have HX : Hid (sxNum true D = sxWrong 12 0) := Lib.hid (HNN.out true (.inr (.inr (.inr ⟨rfl, hbig⟩))))
                have hb2 : (9223372036854775807 : Int) < (u : Int) := by omega
                clear HNN
                go_wp2_with (first | ((with_reducible refine (HC.out _).mono ?_); rintro x w1 ⟨rfl, rfl⟩))
                go_ret3
                exact ⟨j, by rw [HX.out]; rfl, fun h => (by rw [HX.out] at h; cases h), Ev.refl _⟩
              · obtain ⟨hu3, hX⟩ := HNN.fit true hz (fun _ => by omega)
                have HX := Lib.hid hX
                have hb2 : ¬ ((9223372036854775807 : Int) < (u : Int)) := by omega
                have hb3 : ¬ ((9223372036854775808 : Int) < (u : Int)) := by omega
                clear HNN hX
                go_wp2_with (first | ((with_reducible refine (HC.out _).mono ?_); rintro x w1 ⟨rfl, rfl⟩))
                go_ret3
                exact ⟨j, by rw [HX.out]; rfl, fun _ => (by rw [HX.out, HJ.out]; rfl), Ev.refl _⟩
        · rw [hdg] at HC hst
          simp only [if_true] at hst
          have HC := Lib.hid HC
          have hk1 : k < D.length := by have := HK.out; rw [hst] at this; omega
          have HK2 : Hid (sxRun sxDigit (s.data.toList.drop (j + 1)) + (k + 1) = D.length) := Lib.hid (by have := HK.out; rw [hst] at this; omega)
          have hDc := HDat.out k c (by rw [List.getElem?_drop, ← HJ.out]; exact hat) hk1
          obtain ⟨d, hd, hd9⟩ : ∃ d : Nat, (c.toNat : Int) = 48 + (d : Int) ∧ d ≤ 9 := by
            unfold sxDigit at hdg
            simp at hdg
            exact ⟨c.toNat - 48, by omega, by omega⟩
          have hstep := fun m => sxBelow_step D k c m hDc
          have i0 : (48 : Int) + (d : Int) - 48 = (d : Int) := by omega
          rw [hd] at hstep HC
          rw [i0] at hstep
          have i1 : IntKind.u8.wrap ((48 : Int) + (d : Int) - 48) = (d : Int) := by rw [i0]; exact IntWalk.u8_in _ (by omega)
          have HST := Lib.hid hstep
          clear hstep hst hc hat hdg hDc
          go_wp2_with (first | ((with_reducible refine (HC.out _).mono ?_); rintro x w1 ⟨rfl, rfl⟩))
          · obtain ⟨u', hu', hu2⟩ := u64w (IntKind.u64.wrap ((u : Int) * 10) + (d : Int))
            go_round
            case rel => exact ⟨k + 1, u', false, by omega, by rw [HJ.out]; go_num, by rw [hu'], rfl, hu2, Lib.hid (HN.out.bad HST.out (by omega)), by rw [show from_ + (k + 1) = j + 1 by rw [HJ.out]; omega]; exact HK2⟩
            case measure => simp [intOf]; omega
          · go_round
            case rel => exact ⟨k + 1, u * 10 + d, fine, by omega, by rw [HJ.out]; go_num, by go_num, rfl, by omega, Lib.hid (HN.out.good HST.out hd9 (by omega)), by rw [show from_ + (k + 1) = j + 1 by rw [HJ.out]; omega]; exact HK2⟩
            case measure => simp [intOf]; omega
      · have hjs : j = s.size := by
          have := sxRun_le sxDigit (s.data.toList.drop j)
          rw [List.length_drop, HL.out] at this
          have h2 := HK.out
          have h3 := HJ.out
          omega
        have hkD : k = D.length := by
          have := HK.out
          rw [List.drop_of_length_le (by rw [HL.out]; omega)] at this
          simp only [sxRun] at this
          omega
        have hlt2 : ¬ ((j : Int) < (s.size : Int)) := by omega
        clear hjs
        obtain rfl : k = D.length := hkD
        have HNN := HN.out
        by_cases hz : D.length = 0
        · have HX : Hid (sxNum true D = sxWrong 12 0) := Lib.hid (HNN.out true (.inl hz))
          have ej : j = from_ := by rw [HJ.out, hz]; rfl
          have HZ := Lib.hid hz
          clear hz HNN
          subst ej
          go_wp2
          go_ret3
          exact ⟨j, by rw [HX.out]; rfl, fun h => (by rw [HX.out] at h; cases h), Ev.refl _⟩
        · have ej : ¬ ((j : Int) = (from_ : Int)) := by rw [HJ.out]; omega
          have ej' : ((j : Int) == (from_ : Int)) = false := beq_eq_false_iff_ne.2 ej
          cases fine
          · have HX : Hid (sxNum true D = sxWrong 12 0) := Lib.hid (HNN.out true (.inr (.inl rfl)))
            clear HNN
            go_wp2
            go_ret3
            exact ⟨j, by rw [HX.out]; rfl, fun h => (by rw [HX.out] at h; cases h), Ev.refl _⟩
          · by_cases hbig : 9223372036854775807 < u
            · have HX : Hid (sxNum true D = sxWrong 12 0) := Lib.hid (HNN.out true (.inr (.inr (.inr ⟨rfl, hbig⟩))))
              have hb2 : (9223372036854775807 : Int) < (u : Int) := by omega
              clear HNN
              go_wp2
              go_ret3
              exact ⟨j, by rw [HX.out]; rfl, fun h => (by rw [HX.out] at h; cases h), Ev.refl _⟩
            · obtain ⟨hu3, hX⟩ := HNN.fit true hz (fun _ => by omega)
              have HX := Lib.hid hX
              have hb2 : ¬ ((9223372036854775807 : Int) < (u : Int)) := by omega
              have hb3 : ¬ ((9223372036854775808 : Int) < (u : Int)) := by omega
              clear HNN hX
              go_wp2
              go_ret3
              exact ⟨j, by rw [HX.out]; rfl, fun _ => (by rw [HX.out, HJ.out]; rfl), Ev.refl _⟩
  · have hf' : from_ = i + 1 := hf
    have HF := Lib.hid hf'
    have e1 : (c0.toNat : Int) = 45 := by have := beq_iff_eq.1 hm; omega
    have hi0 : (0 : Int) ≤ (i : Int) := by omega
    have hi1 : (i : Int) + 1 = (from_ : Int) := by omega
    clear hf hf'
    clear hm
    simp only [Bool.not_true]
    go_enter Tryd.func51, Tryd.ntmps51
    go_wp2
    go_loop [7, 9, 10] (fun iv uv fv => ∃ (k u : Nat) (fine : Bool), k ≤ D.length ∧ iv = .int .i64 ((from_ + k : Nat) : Int) ∧ uv = .int .u64 (u : Int) ∧ fv = .bool fine ∧ u < 18446744073709551616 ∧ Hid (NumSt D k u fine) ∧ Hid (sxRun sxDigit (s.data.toList.drop (from_ + k)) + k = D.length)) (fun iv _ _ => s.size - (intOf iv).toNat)
    case atStart => exact ⟨0, 0, true, Nat.zero_le _, rfl, rfl, rfl, by omega, Lib.hid ⟨rfl, by omega⟩, Lib.hid (by rw [HDl.out]; rfl)⟩
    case round =>
      obtain ⟨k, u, fine, hk, rfl, rfl, rfl, hu, HN, HK⟩ := hrel
      obtain ⟨j, hj⟩ : ∃ j, j = from_ + k := ⟨_, rfl⟩
      rw [← hj] at HK ⊢
      have hjb : j ≤ 300000 := by have := hDr; omega
      have HJ := Lib.hid hj
      clear hj
      by_cases hlt : j < s.size
      · have hat := sx_at s j hlt
        obtain ⟨c, hc⟩ : ∃ c, s[j] = c := ⟨_, rfl⟩
        have hidx2 : ∀ hh, s[j]'hh = c := fun _ => hc
        rw [hc] at hat
        have hst := sxRun_step sxDigit s.data.toList j c hat
        have HC := HDig.out c
        have hj0 : (0 : Int) ≤ (j : Int) := by omega
        have hj1 : (j : Int) < (s.size : Int) := by omega
        cases hdg : sxDigit c
        · rw [hdg] at HC hst
          simp only [Bool.false_eq_true, if_false] at hst
          have hkD : k = D.length := by have := HK.out; rw [hst] at this; omega
          have HC := Lib.hid HC
          obtain rfl : k = D.length := hkD
          have HNN := HN.out
          by_cases hz : D.length = 0
          · have HX : Hid (sxNum false D = sxWrong 12 0) := Lib.hid (HNN.out false (.inl hz))
            have ej : j = from_ := by rw [HJ.out, hz]; rfl
            have HZ := Lib.hid hz
            clear hz HNN
            subst ej
            go_wp2_with (first | ((with_reducible refine (HC.out _).mono ?_); rintro x w1 ⟨rfl, rfl⟩))
            go_ret3
            exact ⟨j, by rw [HX.out]; rfl, fun h => (by rw [HX.out] at h; cases h), Ev.refl _⟩
          · have ej : ¬ ((j : Int) = (from_ : Int)) := by rw [HJ.out]; omega
            have ej' : ((j : Int) == (from_ : Int)) = false := beq_eq_false_iff_ne.2 ej
            cases fine
            · have HX : Hid (sxNum false D = sxWrong 12 0) := Lib.hid (HNN.out false (.inr (.inl rfl)))
              clear HNN
              go_wp2_with (first | ((with_reducible refine (HC.out _).mono ?_); rintro x w1 ⟨rfl, rfl⟩))
              go_ret3
              exact ⟨j, by rw [HX.out]; rfl, fun h => (by rw [HX.out] at h; cases h), Ev.refl _⟩
            · obtain ⟨hu3, hX⟩ := HNN.fit false hz (fun h => by cases h); have HNG := Lib.hid (u64neg hu3)
              have HX := Lib.hid hX
              have hb3 : ¬ ((9223372036854775808 : Int) < (u : Int)) := by omega
              clear HNN hX
              go_wp2_with (first | ((with_reducible refine (HC.out _).mono ?_); rintro x w1 ⟨rfl, rfl⟩))
              go_ret3
              exact ⟨j, (by rw [HX.out]; exact congrArg (fun x => Ending.returned (Value.tuple #[Value.int .i64 x, Value.int .i64 (j : Int), Value.bool true])) HNG.out), fun _ => (by rw [HX.out, HJ.out, HF.out]; simp only [Bool.false_eq_true, if_false]; omega), Ev.refl _⟩
        · rw [hdg] at HC hst
          simp only [if_true] at hst
          have HC := Lib.hid HC
          have hk1 : k < D.length := by have := HK.out; rw [hst] at this; omega
          have HK2 : Hid (sxRun sxDigit (s.data.toList.drop (j + 1)) + (k + 1) = D.length) := Lib.hid (by have := HK.out; rw [hst] at this; omega)
          have hDc := HDat.out k c (by rw [List.getElem?_drop, ← HJ.out]; exact hat) hk1
          obtain ⟨d, hd, hd9⟩ : ∃ d : Nat, (c.toNat : Int) = 48 + (d : Int) ∧ d ≤ 9 := by
            unfold sxDigit at hdg
            simp at hdg
            exact ⟨c.toNat - 48, by omega, by omega⟩
          have hstep := fun m => sxBelow_step D k c m hDc
          have i0 : (48 : Int) + (d : Int) - 48 = (d : Int) := by omega
          rw [hd] at hstep HC
          rw [i0] at hstep
          have i1 : IntKind.u8.wrap ((48 : Int) + (d : Int) - 48) = (d : Int) := by rw [i0]; exact IntWalk.u8_in _ (by omega)
          have HST := Lib.hid hstep
          clear hstep hst hc hat hdg hDc
          go_wp2_with (first | ((with_reducible refine (HC.out _).mono ?_); rintro x w1 ⟨rfl, rfl⟩))
          · obtain ⟨u', hu', hu2⟩ := u64w (IntKind.u64.wrap ((u : Int) * 10) + (d : Int))
            go_round
            case rel => exact ⟨k + 1, u', false, by omega, by rw [HJ.out]; go_num, by rw [hu'], rfl, hu2, Lib.hid (HN.out.bad HST.out (by omega)), by rw [show from_ + (k + 1) = j + 1 by rw [HJ.out]; omega]; exact HK2⟩
            case measure => simp [intOf]; omega
          · go_round
            case rel => exact ⟨k + 1, u * 10 + d, fine, by omega, by rw [HJ.out]; go_num, by go_num, rfl, by omega, Lib.hid (HN.out.good HST.out hd9 (by omega)), by rw [show from_ + (k + 1) = j + 1 by rw [HJ.out]; omega]; exact HK2⟩
            case measure => simp [intOf]; omega
      · have hjs : j = s.size := by
          have := sxRun_le sxDigit (s.data.toList.drop j)
          rw [List.length_drop, HL.out] at this
          have h2 := HK.out
          have h3 := HJ.out
          omega
        have hkD : k = D.length := by
          have := HK.out
          rw [List.drop_of_length_le (by rw [HL.out]; omega)] at this
          simp only [sxRun] at this
          omega
        have hlt2 : ¬ ((j : Int) < (s.size : Int)) := by omega
        clear hjs
        obtain rfl : k = D.length := hkD
        have HNN := HN.out
        by_cases hz : D.length = 0
        · have HX : Hid (sxNum false D = sxWrong 12 0) := Lib.hid (HNN.out false (.inl hz))
          have ej : j = from_ := by rw [HJ.out, hz]; rfl
          have HZ := Lib.hid hz
          clear hz HNN
          subst ej
          go_wp2
          go_ret3
          exact ⟨j, by rw [HX.out]; rfl, fun h => (by rw [HX.out] at h; cases h), Ev.refl _⟩
        · have ej : ¬ ((j : Int) = (from_ : Int)) := by rw [HJ.out]; omega
          have ej' : ((j : Int) == (from_ : Int)) = false := beq_eq_false_iff_ne.2 ej
          cases fine
          · have HX : Hid (sxNum false D = sxWrong 12 0) := Lib.hid (HNN.out false (.inr (.inl rfl)))
            clear HNN
            go_wp2
            go_ret3
            exact ⟨j, by rw [HX.out]; rfl, fun h => (by rw [HX.out] at h; cases h), Ev.refl _⟩
          · obtain ⟨hu3, hX⟩ := HNN.fit false hz (fun h => by cases h); have HNG := Lib.hid (u64neg hu3)
            have HX := Lib.hid hX
            have hb3 : ¬ ((9223372036854775808 : Int) < (u : Int)) := by omega
            clear HNN hX
            go_wp2
            go_ret3
            exact ⟨j, (by rw [HX.out]; exact congrArg (fun x => Ending.returned (Value.tuple #[Value.int .i64 x, Value.int .i64 (j : Int), Value.bool true])) HNG.out), fun _ => (by rw [HX.out, HJ.out, HF.out]; simp only [Bool.false_eq_true, if_false]; omega), Ev.refl _⟩
end Go.Proofs.YtiiogjpgeginlaaDoor

namespace Go.Proofs.YtiiogjpgeginlaaDoor
open Go.RowKit
set_option linter.unusedVariables false

theorem sx_dropped {l : By} {i : Nat} {c : UInt8} (h : l[i]? = some c) : l.drop i = c :: l.drop (i + 1) := by
  obtain ⟨hi, e⟩ := List.getElem?_eq_some_iff.1 h
  rw [List.drop_eq_getElem_cons hi, e]

theorem rf_number (s : ByteArray) (w : World) (hs : s.size ≤ 100000) (i : Nat) (c0 : UInt8) (hi : i < s.size) (hc0 : s.data.toList[i]? = some c0) :
    Calls Tryd.prog 51 #[.string s, .int .i64 (i : Int)] w fun e w' =>
      ∃ j : Nat, e = .returned (.tuple #[.int .i64 (sxNumber (s.data.toList.drop i)).n, .int .i64 (j : Int), .bool ((sxNumber (s.data.toList.drop i)).why == 0)]) ∧
        ((sxNumber (s.data.toList.drop i)).why = 0 → j = i + (sxNumber (s.data.toList.drop i)).size) ∧ Ev w w' := by
  have hd := sx_dropped hc0
  cases hm : (c0.toNat == 45) with
  | true =>
    have := rf_number_ s w hs i (i + 1) c0 hi hc0 true hm rfl
    have e : sxNumber (s.data.toList.drop i) = sxNum (!true) (sxDigits (s.data.toList.drop (i + 1))) := by rw [hd]; simp only [sxNumber, hm, if_true]; rfl
    rw [e]; exact this
  | false =>
    have := rf_number_ s w hs i i c0 hi hc0 false hm rfl
    have e : sxNumber (s.data.toList.drop i) = sxNum (!false) (sxDigits (s.data.toList.drop i)) := by rw [hd]; simp only [sxNumber, hm]; rfl
    rw [e]; exact this
end Go.Proofs.YtiiogjpgeginlaaDoor

namespace Go.Proofs.YtiiogjpgeginlaaDoor
open Go.RowKit
set_option linter.unusedVariables false

/-- A call of a Go function that turns nothing, as one step of a region. -/
theorem step_call {P : Program} {ops : Array Oper} {o : Oper} {a : Act} {w : World} {K : Act → World → Prop} {Q : Exit → Act → World → Prop} {E : Prop}
    (hg : o.guard = none) (f : FuncId) (xs : Array Operand) (ts : Array TypeId) (hop : o.op = .call { callee := .value (.func f), args := xs, argTypes := ts }) (hb : bodied P f = true) (args : Array Value) (ha : xs.map a.eval = args) (v : Value)
    (hc : Calls P f args w fun e w' => e = .returned v ∧ w = w') (hK : K (a.put o.dst v) w) :
    if Region.wanted o (yielded ops a.tmps) = true then Oper.wp P o a w K Q else E := by
  rw [if_pos (wanted_plain hg)]
  unfold Oper.wp
  rw [run_call f xs ts hop hb w, ha]
  refine hc.mono ?_
  rintro e w' ⟨rfl, rfl⟩
  exact hK
/-- append of one byte onto an own row, as one step of a region. -/
theorem step_append_byte {P : Program} {ops : Array Oper} {o : Oper} {a : Act} {w : World} {K : Act → World → Prop} {Q : Exit → Act → World → Prop} {E : Prop}
    (hg : o.guard = none) (s x : Operand) (hop : o.op = .call { callee := .builtin .append, args := #[s, x], argTypes := #[37, 37] })
    (ht : P.underlying 37 = some (.slice 5)) (hi : (P.info? 5).map (fun i => (i.zero, i.size, i.bytes)) = some (some (.int .u8 0), 1, 1))
    (v : Value) (l : By) (hs : a.eval s = v) (hown : Row w v l) (A : Option Addr) (m c : Nat) (l' : By) (hx : a.eval x = .slice A m c) (hB : Bs w A m c l') (hbytes : l.length + l'.length ≤ 140737488355328)
    (hK : ∀ v' w', Row w' v' (l ++ l') → But (foot v) w w' → Sprung w v v' → K (a.put o.dst v') w') :
    if Region.wanted o (yielded ops a.tmps) = true then Oper.wp P o a w K Q else E := by
  rw [if_pos (wanted_plain hg)]
  obtain ⟨v', w', hr, h2, h3, h4⟩ := run_append_row (P := P) (w := w) o.type ht hi v l hown A m c l' hB hbytes
  unfold Oper.wp execOp
  simp only [hop, resolve, invoke, builtin, Sem.run_bind, Sem.run_pure, Result.andThen_ok, List.map_toArray, List.map_cons, List.map_nil, hs, hx, hr]
  exact hK _ _ h2 h3 h4

theorem results_tmp4 {fn : Func} {t u v x : Tmp} (h : fn.results = #[.tmp t, .tmp u, .tmp v, .tmp x]) (tmps : Array Value) (P : Program) (w : World) :
    (results fn tmps).run P w = .ok (.tuple #[tmps.getD t undef, tmps.getD u undef, tmps.getD v undef, tmps.getD x undef]) w := by
  simp [results, h]
/-- What text gives, beside the error's number. -/
structure TxOut (Y : Tk) (i0 : Nat) (sb : ByteArray) (en wh : Int) : Prop where
  ok : Y.why = 0 → sb = ⟨Y.s.toArray⟩ ∧ en = ((i0 + Y.size : Nat) : Int)
  bad : Y.why ≠ 0 → wh = ((i0 + Y.fault : Nat) : Int)
/-- The bytes that are gathered. -/
structure OutSt (w0 : World) (A : Option Addr) (n cap : Nat) (b : By) (w : World) : Prop where
  row : Row w (.slice A n cap) b
  len : b.length = n
  high : ∀ k, (Value.slice A n cap).ownBlock = some k → w0.heap.size ≤ k
  ev : Ev w0 w
theorem OutSt.step {w0 w w1 : World} {A : Option Addr} {n cap : Nat} {b B1 : By} {v1 : Value} (h : OutSt w0 A n cap b w) (hr : Row w1 v1 B1) (hb : But (foot (.slice A n cap)) w w1) (hs : Sprung w (.slice A n cap) v1) :
    ∃ A1 n1 cap1, v1 = .slice A1 n1 cap1 ∧ OutSt w0 A1 n1 cap1 B1 w1 := by
  obtain ⟨A1, cap1, rfl, _, _, _⟩ := hr.bs
  refine ⟨A1, _, cap1, rfl, hr, rfl, fun k hk => ?_, ((But.of_ev (K := foot (.slice A n cap)) h.ev).then hb).ev fun k hk => h.high k (mem_foot.1 hk)⟩
  rcases hs k hk with h1 | h1
  · exact h.high k h1
  · have := h.ev.size; omega
theorem OutSt.evs {w0 w w1 : World} {A : Option Addr} {n cap : Nat} {b : By} (h : OutSt w0 A n cap b w) (hE : Ev w w1) : OutSt w0 A n cap b w1 := ⟨h.row.ev hE, h.len, h.high, h.ev.trans hE⟩
theorem OutSt.init (w : World) : OutSt w (some ⟨w.heap.size, 0, none⟩) 0 0 [] (w.alloc (.cells #[] 5)) :=
  ⟨⟨rfl, .inr ⟨w.heap.size, 0, #[], rfl, Nat.zero_le _, heap_alloc_new w _, Nat.le_refl _, by decide, rfl, rfl⟩⟩, rfl, by simp [Value.ownBlock], Ev.alloc _ _⟩
theorem rf_escape (b : By) (c x y : UInt8) (q : By) (i ha hb : Nat) (hc : c.toNat = 92) (hx : sxHex x = some ha) (hy : sxHex y = some hb) : sxTextGo b (c :: x :: y :: q) i = sxTextGo (b ++ [UInt8.ofNat (16 * ha + hb)]) q (i + 3) := by
  conv => lhs; unfold sxTextGo
  have hp : sxPlain c = false := by unfold sxPlain; rw [hc]; rfl
  simp [hp, hc, hx, hy]
theorem rf_byte {a b : Nat} (ha : a < 16) (hb : b < 16) : IntKind.u8.wrap (16 * (a : Int) + (b : Int)) = ((UInt8.ofNat (16 * a + b)).toNat : Int) := by
  rw [IntWalk.u8_in _ (by omega), UInt8.toNat_ofNat']
  omega

set_option maxRecDepth 100000 in
set_option maxHeartbeats 4000000 in
theorem rf_text (s : ByteArray) (w : World) (hs : s.size ≤ 100000) (i0 : Nat) (hi : i0 < s.size) :
    Calls Tryd.prog 50 #[.string s, .int .i64 (i0 : Int)] w fun e w' =>
      ∃ (sb : ByteArray) (en wh : Int), e = .returned (.tuple #[.string sb, .int .i64 en, .int .i64 (sxTextGo [] (s.data.toList.drop (i0 + 1)) 1).why, .int .i64 wh]) ∧
        TxOut (sxTextGo [] (s.data.toList.drop (i0 + 1)) 1) i0 sb en wh ∧ Ev w w' := by
  have hll : s.data.toList.length = s.size := by rw [Array.length_toList]; rfl
  obtain ⟨Y, hY⟩ : ∃ Y, Y = sxTextGo [] (s.data.toList.drop (i0 + 1)) 1 := ⟨_, rfl⟩
  rw [← hY]
  have HY := Lib.hid hY
  have HL := Lib.hid hll
  have HH := Lib.hid rf_hex
  clear hY hll
  go_enter Tryd.func50, Tryd.ntmps50
  go_wp2
  go_loopw [8, 9] (fun ov iv wr => ∃ (b : By) (A : Option Addr) (n cap j : Nat), ov = .slice A n cap ∧ iv = .int .i64 (j : Int) ∧ i0 + 1 ≤ j ∧ j ≤ s.size ∧ n ≤ j ∧ OutSt w A n cap b wr ∧ Hid (Y = sxTextGo b (s.data.toList.drop j) (j - i0))) (fun _ iv _ => s.size - (intOf iv).toNat)
  case atStart => exact ⟨[], _, 0, 0, i0 + 1, rfl, by go_num, Nat.le_refl _, hi, by omega, OutSt.init w, Lib.hid (by rw [show i0 + 1 - i0 = 1 by omega]; exact HY.out)⟩
  case round =>
    obtain ⟨b, A, n, cap, j, rfl, rfl, hj0, hj, hnj, ST, HG⟩ := hrel
    by_cases hlt : j < s.size
    · have hat := sx_at s j hlt
      obtain ⟨c, hc⟩ : ∃ c, s[j] = c := ⟨_, rfl⟩
      have hidx2 : ∀ hh, s[j]'hh = c := fun _ => hc
      rw [hc] at hat
      have hdr := sx_dropped hat
      have g0 : (0 : Int) ≤ (j : Int) := by omega
      have g1 : (j : Int) < (s.size : Int) := by omega
      have g2 : ¬ ((s.size : Int) ≤ (j : Int)) := by omega
      have HLN := Lib.hid ST.len
      have HG1 := HG.out
      rw [hdr] at HG1
      clear hc HG hdr
      by_cases h34 : c.toNat = 34
      · have e34 : (c.toNat : Int) = 34 := by omega
        have hp : sxPlain c = false := by unfold sxPlain; rw [h34]; rfl
        unfold sxTextGo at HG1
        simp [hp, h34, HLN.out] at HG1
        by_cases h40 : 40 < n
        · rw [if_pos h40] at HG1
          have HG2 := Lib.hid HG1
          have e40 : (40 : Int) < (n : Int) := by omega
          clear HG1
          go_wp2
          (try simp only [Exit.inBlock, Exit.then]); refine bodyPost_ret (results_tmp4 rfl _ _ _) rfl ?_
          exact ⟨_, _, _, by rw [HG2.out]; rfl, ⟨(fun h => by rw [HG2.out] at h; cases h), (fun _ => by rw [HG2.out]; rfl)⟩, ST.ev⟩
        · rw [if_neg h40] at HG1
          have HG2 := Lib.hid HG1
          have e40 : ¬ ((40 : Int) < (n : Int)) := by omega
          obtain ⟨A1', cap1', hv, hbs, _, _⟩ := ST.row.bs
          rw [HLN.out] at hv hbs
          injection hv with hv1 hv2 hv3
          subst hv1
          subst hv3
          have hcv := hbs.str 37 9 5 Tryd.underlying37 Tryd.underlying5 Tryd.underlying9
          clear HG1 hv2
          go_wp2
          (try simp only [Exit.inBlock, Exit.then]); refine bodyPost_ret (results_tmp4 rfl _ _ _) rfl ?_
          have hsz : ((i0 + (j - i0 + 1) : Nat) : Int) = (j : Int) + 1 := by omega
          exact ⟨_, _, _, by rw [HG2.out]; rfl, ⟨(fun _ => by rw [HG2.out]; exact ⟨rfl, hsz.symm⟩), (fun h => by rw [HG2.out] at h; exact absurd rfl h)⟩, ST.ev⟩
      · have e34 : ¬ ((c.toNat : Int) = 34) := by omega
        have e34' : ((c.toNat : Int) == 34) = false := beq_eq_false_iff_ne.2 e34
        by_cases h32 : c.toNat < 32
        · have e32 : (c.toNat : Int) < 32 := by omega
          have hp : sxPlain c = false := by unfold sxPlain; rw [decide_eq_false (show ¬ 32 ≤ c.toNat by omega)]; rfl
          have h92 : ¬ (c.toNat = 92) := by omega
          unfold sxTextGo at HG1
          simp [hp, h34, h92] at HG1
          have HG2 := Lib.hid HG1
          clear HG1
          go_wp2
          (try simp only [Exit.inBlock, Exit.then]); refine bodyPost_ret (results_tmp4 rfl _ _ _) rfl ?_
          exact ⟨_, _, _, by rw [HG2.out]; rfl, ⟨(fun h => by rw [HG2.out] at h; cases h), (fun _ => by rw [HG2.out]; simp only [sxWrong]; omega)⟩, ST.ev⟩
        · have e32 : ¬ ((c.toNat : Int) < 32) := by omega
          by_cases h126 : 126 < c.toNat
          · have e126 : (126 : Int) < (c.toNat : Int) := by omega
            have hp : sxPlain c = false := by unfold sxPlain; rw [decide_eq_false (show ¬ c.toNat ≤ 126 by omega)]; simp
            have h92 : ¬ (c.toNat = 92) := by omega
            unfold sxTextGo at HG1
            simp [hp, h34, h92] at HG1
            have HG2 := Lib.hid HG1
            clear HG1
            go_wp2
            (try simp only [Exit.inBlock, Exit.then]); refine bodyPost_ret (results_tmp4 rfl _ _ _) rfl ?_
            exact ⟨_, _, _, by rw [HG2.out]; rfl, ⟨(fun h => by rw [HG2.out] at h; cases h), (fun _ => by rw [HG2.out]; simp only [sxWrong]; omega)⟩, ST.ev⟩
          · have e126 : ¬ ((126 : Int) < (c.toNat : Int)) := by omega
            by_cases h92 : c.toNat = 92
            · have e92 : (c.toNat : Int) = 92 := by omega
              have HG2 := Lib.hid HG1
              clear HG1
              go_wp2
              go_loop [11] (fun kv => ∃ k : Nat, kv = .int .i64 (k : Int) ∧ 1 ≤ k ∧ k ≤ 3 ∧ Hid (2 ≤ k → ∃ x a, s.data.toList[j + 1]? = some x ∧ sxHex x = some a) ∧ Hid (3 ≤ k → ∃ x a, s.data.toList[j + 2]? = some x ∧ sxHex x = some a)) (fun kv => 3 - (intOf kv).toNat)
              case atStart => exact ⟨1, rfl, Nat.le_refl _, by omega, Lib.hid fun h => absurd h (by omega), Lib.hid fun h => absurd h (by omega)⟩
              case round =>
                obtain ⟨k, rfl, hk1, hk3, HA, HB⟩ := hrel
                have hpl : sxPlain c = false := by unfold sxPlain; rw [h92]; rfl
                by_cases k3 : k = 3
                · subst k3
                  obtain ⟨x, ha, hx, hxa⟩ := HA.out (by omega)
                  obtain ⟨y, hb, hy, hyb⟩ := HB.out (by omega)
                  have HG3 := HG2.out
                  rw [sx_dropped hx, sx_dropped hy, rf_escape b c x y _ _ ha hb h92 hxa hyb] at HG3
                  obtain ⟨hj1, ex⟩ := List.getElem?_eq_some_iff.1 hx
                  obtain ⟨hj2, ey⟩ := List.getElem?_eq_some_iff.1 hy
                  rw [HL.out] at hj1 hj2
                  have hx1 : ∀ hh, s[j + 1]'hh = x := fun _ => ex
                  have hy1 : ∀ hh, s[j + 2]'hh = y := fun _ => ey
                  have q1 : (0 : Int) ≤ (j : Int) + 1 := by omega
                  have q2 : (j : Int) + 1 < (s.size : Int) := by omega
                  have q3 : (0 : Int) ≤ (j : Int) + 2 := by omega
                  have q4 : (j : Int) + 2 < (s.size : Int) := by omega
                  have t1 : ((j : Int) + 1).toNat = j + 1 := by omega
                  have t2 : ((j : Int) + 2).toNat = j + 2 := by omega
                  have z1 : IntKind.i64.wrap ((j : Int) + 1) = (j : Int) + 1 := IntWalk.i64_in _ (by omega)
                  have z2 : IntKind.i64.wrap ((j : Int) + 2) = (j : Int) + 2 := IntWalk.i64_in _ (by omega)
                  have hha := sxHex_lt hxa
                  have hhb := sxHex_lt hyb
                  have HX := HH.out x
                  have HY2 := HH.out y
                  rw [hexI_some hxa] at HX
                  rw [hexI_some hyb] at HY2
                  have HX := Lib.hid HX
                  have HY2 := Lib.hid HY2
                  have hbyte := rf_byte hha hhb
                  have z3 : IntKind.i64.wrap (16 * (ha : Int)) = 16 * (ha : Int) := IntWalk.i64_in _ (by omega)
                  have z4 : IntKind.i64.wrap (16 * (ha : Int) + (hb : Int)) = 16 * (ha : Int) + (hb : Int) := IntWalk.i64_in _ (by omega)
                  have HG4 := Lib.hid HG3
                  generalize hN : UInt8.ofNat (16 * ha + hb) = N16 at *
                  have HBS := Lib.hid (fun w1 : World => sx_made_byte w1 N16)
                  have HST := Lib.hid ST
                  clear HG3 HG2 HA HB hx hy ex ey hxa hyb hN hha hhb
                  go_wp2
                  go_region_law (first
                    | (refine step_call rfl 73 #[.tmp 73] #[5] rfl (by kernel_rfl) #[.int .u8 (x.toNat : Int)] (by simp only [List.map_toArray, List.map_cons, List.map_nil]; rfl) _ (HX.out _) ?_)
                    | (refine step_call rfl 73 #[.tmp 79] #[5] rfl (by kernel_rfl) #[.int .u8 (y.toNat : Int)] (by simp only [List.map_toArray, List.map_cons, List.map_nil]; rfl) _ (HY2.out _) ?_)
                    | (refine step_append_byte rfl (.tmp 69) (.tmp 83) rfl Tryd.underlying37 Tryd.infoU8 (.slice A n cap) b rfl (HST.out.row.ev ((Ev.drew wr).trans (Ev.alloc wr.drew _))) (some ⟨wr.heap.size, 0, none⟩) 1 1 [N16] rfl (HBS.out wr.drew) (by rw [HLN.out]; simp; omega) ?_; intro v2 w5 hr2 hb2 hs2; obtain ⟨A2, n2, cap2, rfl, ST2⟩ := (HST.out.evs ((Ev.drew wr).trans (Ev.alloc wr.drew _))).step hr2 hb2 hs2))
                  all_goals (
                    go_wp2
                    go_round
                    case rel => exact ⟨b ++ [N16], A2, n2, cap2, j + 3, rfl, by go_num, by omega, by omega, by rw [← ST2.len, List.length_append, HLN.out]; simp; omega, ST2, Lib.hid (by rw [show j + 3 - i0 = j - i0 + 3 by omega]; exact HG4.out)⟩
                    case measure => simp [intOf]; omega)
                · obtain rfl | rfl : k = 1 ∨ k = 2 := by omega
                  · skip
                    have kz : IntKind.i64.wrap ((j : Int) + 1) = (j : Int) + 1 := IntWalk.i64_in _ (by omega)
                    have HG3 := HG2.out
                    by_cases hk : j + 1 < s.size
                    · have hx := sx_at s (j + 1) hk
                      obtain ⟨x, ex⟩ : ∃ x, s[j + 1] = x := ⟨_, rfl⟩
                      have hx1 : ∀ hh, s[j + 1]'hh = x := fun _ => ex
                      rw [ex] at hx
                      rw [sx_dropped hx] at HG3
                      unfold sxTextGo at HG3
                      simp [hpl, h92] at HG3
                      have q1 : (0 : Int) ≤ (j : Int) + 1 := by omega
                      have q2 : (j : Int) + 1 < (s.size : Int) := by omega
                      have q3 : ¬ ((s.size : Int) ≤ (j : Int) + 1) := by omega
                      have t1 : ((j : Int) + 1).toNat = j + 1 := by omega
                      have HX := HH.out x
                      cases hxa : sxHex x with
                      | none =>
                        rw [hxa] at HG3
                        rw [hexI_none hxa] at HX
                        have HX := Lib.hid HX
                        have HG4 := Lib.hid HG3
                        clear HG3 HG2 HA HB hx ex
                        go_wp2_with (first | ((with_reducible refine (HX.out _).mono ?_); rintro e w1 ⟨rfl, rfl⟩))
                        (try simp only [Exit.inBlock, Exit.then]); refine bodyPost_ret (results_tmp4 rfl _ _ _) rfl ?_
                        exact ⟨_, _, _, by rw [HG4.out]; rfl, ⟨(fun h => by rw [HG4.out] at h; cases h), (fun _ => by rw [HG4.out]; simp only [sxWrong]; omega)⟩, ST.ev⟩
                      | some a =>
                        rw [hexI_some hxa] at HX
                        have HX := Lib.hid HX
                        have q4 : ¬ ((a : Int) < 0) := by omega
                        have q5 : (0 : Int) ≤ (a : Int) := by omega
                        have HAx : Hid (∃ x a, s.data.toList[j + 1]? = some x ∧ sxHex x = some a) := Lib.hid ⟨x, a, hx, hxa⟩
                        clear HG3 hx ex
                        go_wp2_with (first | ((with_reducible refine (HX.out _).mono ?_); rintro e w1 ⟨rfl, rfl⟩))
                        go_round
                        case rel => exact ⟨2, rfl, by omega, by omega, Lib.hid fun _ => HAx.out, Lib.hid fun h => absurd h (by omega)⟩
                        case measure => simp [intOf]
                    · have q3 : (s.size : Int) ≤ (j : Int) + 1 := by omega
                      rw [List.drop_of_length_le (by rw [HL.out]; omega)] at HG3
                      unfold sxTextGo at HG3
                      simp [hpl, h92] at HG3
                      have HG4 := Lib.hid HG3
                      clear HG3 HG2 HA HB
                      go_wp2
                      (try simp only [Exit.inBlock, Exit.then]); refine bodyPost_ret (results_tmp4 rfl _ _ _) rfl ?_
                      exact ⟨_, _, _, by rw [HG4.out]; rfl, ⟨(fun h => by rw [HG4.out] at h; cases h), (fun _ => by rw [HG4.out]; simp only [sxWrong]; omega)⟩, ST.ev⟩
                  · skip
                    have kz : IntKind.i64.wrap ((j : Int) + 2) = (j : Int) + 2 := IntWalk.i64_in _ (by omega)
                    obtain ⟨x0, ha0, hx0, hxa0⟩ := HA.out (by omega)
                    have HG3 := HG2.out
                    rw [sx_dropped hx0] at HG3
                    have hj1 := (List.getElem?_eq_some_iff.1 hx0).1
                    rw [HL.out] at hj1
                    by_cases hk : j + 2 < s.size
                    · have hx := sx_at s (j + 2) hk
                      obtain ⟨x, ex⟩ : ∃ x, s[j + 2] = x := ⟨_, rfl⟩
                      have hx1 : ∀ hh, s[j + 2]'hh = x := fun _ => ex
                      rw [ex] at hx
                      rw [sx_dropped hx] at HG3
                      unfold sxTextGo at HG3
                      simp [hpl, h92, hxa0] at HG3
                      have q1 : (0 : Int) ≤ (j : Int) + 2 := by omega
                      have q2 : (j : Int) + 2 < (s.size : Int) := by omega
                      have q3 : ¬ ((s.size : Int) ≤ (j : Int) + 2) := by omega
                      have t1 : ((j : Int) + 2).toNat = j + 2 := by omega
                      have HX := HH.out x
                      cases hxa : sxHex x with
                      | none =>
                        rw [hxa] at HG3
                        rw [hexI_none hxa] at HX
                        have HX := Lib.hid HX
                        have HG4 := Lib.hid HG3
                        clear HG3 HG2 HA HB hx ex
                        go_wp2_with (first | ((with_reducible refine (HX.out _).mono ?_); rintro e w1 ⟨rfl, rfl⟩))
                        (try simp only [Exit.inBlock, Exit.then]); refine bodyPost_ret (results_tmp4 rfl _ _ _) rfl ?_
                        exact ⟨_, _, _, by rw [HG4.out]; rfl, ⟨(fun h => by rw [HG4.out] at h; cases h), (fun _ => by rw [HG4.out]; simp only [sxWrong]; omega)⟩, ST.ev⟩
                      | some a =>
                        rw [hexI_some hxa] at HX
                        have HX := Lib.hid HX
                        have q4 : ¬ ((a : Int) < 0) := by omega
                        have q5 : (0 : Int) ≤ (a : Int) := by omega
                        have HAx : Hid (∃ x a, s.data.toList[j + 2]? = some x ∧ sxHex x = some a) := Lib.hid ⟨x, a, hx, hxa⟩
                        clear HG3 hx ex
                        go_wp2_with (first | ((with_reducible refine (HX.out _).mono ?_); rintro e w1 ⟨rfl, rfl⟩))
                        go_round
                        case rel => exact ⟨3, rfl, by omega, by omega, Lib.hid fun _ => HA.out (by omega), Lib.hid fun _ => HAx.out⟩
                        case measure => simp [intOf]
                    · have q3 : (s.size : Int) ≤ (j : Int) + 2 := by omega
                      rw [List.drop_of_length_le (by rw [HL.out]; omega)] at HG3
                      unfold sxTextGo at HG3
                      simp [hpl, h92, hxa0] at HG3
                      have HG4 := Lib.hid HG3
                      clear HG3 HG2 HA HB
                      go_wp2
                      (try simp only [Exit.inBlock, Exit.then]); refine bodyPost_ret (results_tmp4 rfl _ _ _) rfl ?_
                      exact ⟨_, _, _, by rw [HG4.out]; rfl, ⟨(fun h => by rw [HG4.out] at h; cases h), (fun _ => by rw [HG4.out]; simp only [sxWrong]; omega)⟩, ST.ev⟩
            · have e92 : ¬ ((c.toNat : Int) = 92) := by omega
              have e92' : ((c.toNat : Int) == 92) = false := beq_eq_false_iff_ne.2 e92
              have hp : sxPlain c = true := by unfold sxPlain; simp; omega
              unfold sxTextGo at HG1
              simp [hp] at HG1
              have HG2 := Lib.hid HG1
              have HBS := Lib.hid (sx_made_byte wr c)
              clear HG1
              go_wp2_with (first
                | ((show wpList _ _ _ (⟨some 46, _, _, _, _, _⟩ :: _) _ _); refine wpList_append_row (o := ⟨some 46, _, _, _, _, _⟩) rfl (.tmp 43) (.tmp 45) rfl Tryd.underlying37 Tryd.infoU8 (.slice A n cap) b rfl (ST.row.ev (Ev.alloc _ _)) (some ⟨wr.heap.size, 0, none⟩) 1 1 [c] rfl HBS.out (by rw [HLN.out]; simp; omega) ?_; intro v2 w5 hr2 hb2 hs2; obtain ⟨A2, n2, cap2, rfl, ST2⟩ := (ST.evs (Ev.alloc _ _)).step hr2 hb2 hs2))
              go_round
              case rel => exact ⟨b ++ [c], A2, n2, cap2, j + 1, rfl, by go_num, by omega, by omega, by rw [← ST2.len, List.length_append, HLN.out]; simp; omega, ST2, Lib.hid (by rw [show j + 1 - i0 = j - i0 + 1 by omega]; exact HG2.out)⟩
              case measure => simp [intOf]; omega
    · have hjs : j = s.size := by omega
      have HG1 := HG.out
      rw [List.drop_of_length_le (by rw [HL.out]; omega)] at HG1
      unfold sxTextGo at HG1
      have HG2 := Lib.hid HG1
      have g2 : (s.size : Int) ≤ (j : Int) := by omega
      clear HG1 HG
      go_wp2
      (try simp only [Exit.inBlock, Exit.then]); refine bodyPost_ret (results_tmp4 rfl _ _ _) rfl ?_
      exact ⟨_, _, _, by rw [HG2.out]; rfl, ⟨(fun h => by rw [HG2.out] at h; cases h), (fun _ => by rw [HG2.out]; simp only [sxWrong]; omega)⟩, ST.ev⟩
end Go.Proofs.YtiiogjpgeginlaaDoor

namespace Go.Proofs.YtiiogjpgeginlaaDoor
open Go.RowKit
set_option linter.unusedVariables false

/-- A struct in its own box. -/
structure Bx (T : TypeId) (g : Nat) (cs : Array Value) (w : World) : Prop where
  blk : w.heap[g]? = some (.cells cs T (0, 0))
theorem Bx.but {K : List Nat} {T : TypeId} {g : Nat} {cs : Array Value} {w w' : World} (h : Bx T g cs w) (hb : But K w w') (hn : g ∉ K) : Bx T g cs w' := ⟨hb.heap h.blk hn⟩
theorem Bx.ev {T : TypeId} {g : Nat} {cs : Array Value} {w w' : World} (h : Bx T g cs w) (hE : Ev w w') : Bx T g cs w' := h.but (But.of_ev (K := []) hE) (by simp)
theorem Bx.lt {T : TypeId} {g : Nat} {cs : Array Value} {w : World} (h : Bx T g cs w) : g < w.heap.size := (Array.getElem?_eq_some_iff.1 h.blk).1
theorem Bx.cell {T : TypeId} {g : Nat} {cs : Array Value} {w : World} (h : Bx T g cs w) (i : Nat) : w.cell? ⟨g, i, none⟩ = cs[i]? := by rw [Lib.cell_of_heap h.blk]
theorem Bx.frozen {T : TypeId} {g : Nat} {cs : Array Value} {w : World} (h : Bx T g cs w) (i : Nat) : w.frozen? ⟨g, i, none⟩ = false := Lib.frozen_of_heap h.blk i
theorem Bx.set {T : TypeId} {g : Nat} {cs : Array Value} {w : World} (h : Bx T g cs w) (i : Nat) (v : Value) : Bx T g (cs.setIfInBounds i v) (w.setCell ⟨g, i, none⟩ v) := ⟨ow_set_heap i v h.blk⟩
theorem Bx.new (T : TypeId) (cs : Array Value) (w : World) : Bx T w.heap.size cs (w.alloc (.cells cs T)) := ⟨heap_alloc_new w _⟩
theorem Bx.five {T : TypeId} {g : Nat} {w : World} {v0 v1 v2 v3 v4 : Value} (h : Bx T g #[v0, v1, v2, v3, v4] w) : (w.cell? ⟨g, 0, none⟩ = some v0 ∧ w.cell? ⟨g, 1, none⟩ = some v1 ∧ w.cell? ⟨g, 2, none⟩ = some v2 ∧ w.cell? ⟨g, 3, none⟩ = some v3 ∧ w.cell? ⟨g, 4, none⟩ = some v4) ∧
    (w.frozen? ⟨g, 0, none⟩ = false ∧ w.frozen? ⟨g, 1, none⟩ = false ∧ w.frozen? ⟨g, 2, none⟩ = false ∧ w.frozen? ⟨g, 3, none⟩ = false ∧ w.frozen? ⟨g, 4, none⟩ = false) :=
  ⟨⟨h.cell 0, h.cell 1, h.cell 2, h.cell 3, h.cell 4⟩, h.frozen 0, h.frozen 1, h.frozen 2, h.frozen 3, h.frozen 4⟩
theorem Bx.four {T : TypeId} {g : Nat} {w : World} {v0 v1 v2 v3 : Value} (h : Bx T g #[v0, v1, v2, v3] w) : (w.cell? ⟨g, 0, none⟩ = some v0 ∧ w.cell? ⟨g, 1, none⟩ = some v1 ∧ w.cell? ⟨g, 2, none⟩ = some v2 ∧ w.cell? ⟨g, 3, none⟩ = some v3) ∧
    (w.frozen? ⟨g, 0, none⟩ = false ∧ w.frozen? ⟨g, 1, none⟩ = false ∧ w.frozen? ⟨g, 2, none⟩ = false ∧ w.frozen? ⟨g, 3, none⟩ = false) :=
  ⟨⟨h.cell 0, h.cell 1, h.cell 2, h.cell 3⟩, h.frozen 0, h.frozen 1, h.frozen 2, h.frozen 3⟩
/-- All cells of a box are stored. -/
def set4 (g : Nat) (v0 v1 v2 v3 : Value) (w : World) : World := (((w.setCell ⟨g, 0, none⟩ v0).setCell ⟨g, 1, none⟩ v1).setCell ⟨g, 2, none⟩ v2).setCell ⟨g, 3, none⟩ v3
def set5 (g : Nat) (v0 v1 v2 v3 v4 : Value) (w : World) : World := (set4 g v0 v1 v2 v3 w).setCell ⟨g, 4, none⟩ v4
theorem set5_fold (g : Nat) (v0 v1 v2 v3 v4 : Value) (w : World) : ((((w.setCell ⟨g, 0, none⟩ v0).setCell ⟨g, 1, none⟩ v1).setCell ⟨g, 2, none⟩ v2).setCell ⟨g, 3, none⟩ v3).setCell ⟨g, 4, none⟩ v4 = set5 g v0 v1 v2 v3 v4 w := rfl
theorem set4_fold (g : Nat) (v0 v1 v2 v3 : Value) (w : World) : (((w.setCell ⟨g, 0, none⟩ v0).setCell ⟨g, 1, none⟩ v1).setCell ⟨g, 2, none⟩ v2).setCell ⟨g, 3, none⟩ v3 = set4 g v0 v1 v2 v3 w := rfl
theorem set4_but (g : Nat) (v0 v1 v2 v3 : Value) (w : World) : But [g] w (set4 g v0 v1 v2 v3 w) :=
  (((But.setCell ⟨g, 0, none⟩ _ (by simp)).then (But.setCell ⟨g, 1, none⟩ _ (by simp))).then (But.setCell ⟨g, 2, none⟩ _ (by simp))).then (But.setCell ⟨g, 3, none⟩ _ (by simp))
theorem set5_but (g : Nat) (v0 v1 v2 v3 v4 : Value) (w : World) : But [g] w (set5 g v0 v1 v2 v3 v4 w) := (set4_but g v0 v1 v2 v3 w).then (But.setCell ⟨g, 4, none⟩ _ (by simp))
theorem Bx.set4 {T : TypeId} {g : Nat} {w : World} {u0 u1 u2 u3 : Value} (h : Bx T g #[u0, u1, u2, u3] w) (v0 v1 v2 v3 : Value) : Bx T g #[v0, v1, v2, v3] (set4 g v0 v1 v2 v3 w) := by
  have := (((h.set 0 v0).set 1 v1).set 2 v2).set 3 v3
  rw [show (((((#[u0, u1, u2, u3] : Array Value).setIfInBounds 0 v0).setIfInBounds 1 v1).setIfInBounds 2 v2).setIfInBounds 3 v3) = #[v0, v1, v2, v3] by simp] at this
  exact this
theorem Bx.set5 {T : TypeId} {g : Nat} {w : World} {u0 u1 u2 u3 u4 : Value} (h : Bx T g #[u0, u1, u2, u3, u4] w) (v0 v1 v2 v3 v4 : Value) : Bx T g #[v0, v1, v2, v3, v4] (set5 g v0 v1 v2 v3 v4 w) := by
  have := ((((h.set 0 v0).set 1 v1).set 2 v2).set 3 v3).set 4 v4
  rw [show ((((((#[u0, u1, u2, u3, u4] : Array Value).setIfInBounds 0 v0).setIfInBounds 1 v1).setIfInBounds 2 v2).setIfInBounds 3 v3).setIfInBounds 4 v4) = #[v0, v1, v2, v3, v4] by simp] at this
  exact this
/-- A box of one's own, stored into: what was there stays. -/
theorem Ev.box {w w1 w2 : World} {g : Nat} (h : Ev w w1) (hb : But [g] w1 w2) (hg : w.heap.size ≤ g) : Ev w w2 :=
  ((But.of_ev (K := [g]) h).then hb).ev fun k hk => by simp at hk; omega

theorem results_cell1 {P : Program} {fn : Func} {p : Tmp} {ty : TypeId} (h : fn.results = #[.cell p ty]) (tmps : Array Value) (w : World) (g : Nat) (cs : Array Value) (d : TypeDesc)
    (hp : tmps.getD p undef = .pointer (some ⟨g, 0, none⟩)) (hg : Bx ty g cs w)
    (hu : P.underlying ty = some d) (hd : (match d with | .struct _ | .array _ _ => true | _ => false) = true) (hi : (P.info? ty).map (·.size) = some cs.size) :
    (results fn tmps).run P w = .ok (.agg cs) w := by
  have hp' : tmps[p]?.getD undef = .pointer (some ⟨g, 0, none⟩) := by simpa using hp
  simp [results, h, hp', asAddr, run_loadVar_row w g ty ty cs (0, 0) d hg.blk hu hd hi]
theorem results_cell3 {P : Program} {fn : Func} {p u1 u2 u3 : Tmp} {ty : TypeId} (h : fn.results = #[.cell p ty, .tmp u1, .tmp u2, .tmp u3]) (tmps : Array Value) (w : World) (g : Nat) (cs : Array Value) (d : TypeDesc)
    (hp : tmps.getD p undef = .pointer (some ⟨g, 0, none⟩)) (hg : Bx ty g cs w)
    (hu : P.underlying ty = some d) (hd : (match d with | .struct _ | .array _ _ => true | _ => false) = true) (hi : (P.info? ty).map (·.size) = some cs.size) :
    (results fn tmps).run P w = .ok (.tuple #[.agg cs, tmps.getD u1 undef, tmps.getD u2 undef, tmps.getD u3 undef]) w := by
  have hp' : tmps[p]?.getD undef = .pointer (some ⟨g, 0, none⟩) := by simpa using hp
  simp [results, h, hp', asAddr, run_loadVar_row w g ty ty cs (0, 0) d hg.blk hu hd hi]
theorem results_cell2' {P : Program} {fn : Func} {p u1 u2 : Tmp} {ty : TypeId} (h : fn.results = #[.cell p ty, .tmp u1, .tmp u2]) (tmps : Array Value) (w : World) (g : Nat) (cs : Array Value) (d : TypeDesc)
    (hp : tmps.getD p undef = .pointer (some ⟨g, 0, none⟩)) (hg : Bx ty g cs w)
    (hu : P.underlying ty = some d) (hd : (match d with | .struct _ | .array _ _ => true | _ => false) = true) (hi : (P.info? ty).map (·.size) = some cs.size) :
    (results fn tmps).run P w = .ok (.tuple #[.agg cs, tmps.getD u1 undef, tmps.getD u2 undef]) w :=
  results_cell2 h tmps w g ty cs (0, 0) d hp hg.blk hu hd hi
theorem Tryd.sizeRTree : (Tryd.prog.info? 31).map (·.size) = some 5 := by kernel_rfl

theorem sxText_n : ∀ (N : Nat) (r b : By) (i : Nat), r.length ≤ N → (sxTextGo b r i).n = 0 := by
  intro N
  induction N with
  | zero =>
    intro r b i h
    have : r = [] := List.eq_nil_of_length_eq_zero (by omega)
    subst this
    rfl
  | succ N ih =>
    intro r b i h
    cases r with
    | nil => rfl
    | cons c q =>
      simp at h
      unfold sxTextGo
      split
      · exact ih q _ _ h
      · split
        · split
          · rfl
          · rename_i x q1
            simp at h
            split
            · rfl
            · split
              · rfl
              · rename_i y q2
                simp at h
                split
                · rfl
                · exact ih q2 _ _ (by omega)
        · split
          · split <;> rfl
          · rfl

theorem sxNum_kind (plus : Bool) (d : By) : ((sxNum plus d).why = 0 → (sxNum plus d).kind = 3 ∧ (sxNum plus d).s = []) ∧ ((sxNum plus d).why ≠ 0 → (sxNum plus d).why = 12 ∧ (sxNum plus d).fault = 0) := by
  unfold sxNum
  split
  · exact ⟨(fun h => by cases h), (fun _ => ⟨rfl, rfl⟩)⟩
  · split
    · exact ⟨(fun h => by cases h), (fun _ => ⟨rfl, rfl⟩)⟩
    · split
      · exact ⟨fun _ => ⟨rfl, rfl⟩, fun h => absurd rfl h⟩
      · exact ⟨fun _ => ⟨rfl, rfl⟩, fun h => absurd rfl h⟩
theorem sxNumber_both (l : By) : ((sxNumber l).why = 0 → (sxNumber l).kind = 3 ∧ (sxNumber l).s = []) ∧ ((sxNumber l).why ≠ 0 → (sxNumber l).why = 12 ∧ (sxNumber l).fault = 0) := by
  unfold sxNumber
  split
  · exact sxNum_kind _ _
  · split
    · exact sxNum_kind _ _
    · exact sxNum_kind _ _
theorem sxNumber_kind (l : By) : (sxNumber l).why = 0 → (sxNumber l).kind = 3 ∧ (sxNumber l).s = [] := (sxNumber_both l).1
theorem sxNumber_bad (l : By) : (sxNumber l).why ≠ 0 → (sxNumber l).why = 12 ∧ (sxNumber l).fault = 0 := (sxNumber_both l).2
/-- What leaf gives. -/
def LeafOut (X : Tk) (i : Nat) (w : World) (e : Ending) (w' : World) : Prop :=
  ∃ (k n p en wh : Int) (sb : ByteArray), e = .returned (.tuple #[.agg #[.int .i64 k, .string sb, .int .i64 n, .slice none 0 0, .int .i64 p], .int .i64 en, .int .i64 X.why, .int .i64 wh]) ∧
    (X.why = 0 → k = X.kind ∧ sb = ⟨X.s.toArray⟩ ∧ n = X.n ∧ p = (i : Int) ∧ en = ((i + X.size : Nat) : Int)) ∧ (X.why ≠ 0 → wh = ((i + X.fault : Nat) : Int)) ∧ Ev w w'

set_option maxRecDepth 100000 in
set_option maxHeartbeats 4000000 in
theorem rf_leaf (s : ByteArray) (w : World) (hs : s.size ≤ 100000) (i : Nat) (hi : i < s.size) (c : UInt8) (hc0 : s.data.toList[i]? = some c) (hk : c.toNat = 34 ∨ c.toNat = 45 ∨ sxLetter c = true ∨ sxDigit c = true) :
    Calls Tryd.prog 24 #[.string s, .int .i64 (i : Int)] w (LeafOut (sxScan (s.data.toList.drop i)) i w) := by
  have hll : s.data.toList.length = s.size := by rw [Array.length_toList]; rfl
  have HL := Lib.hid hll
  have hidx : ∀ hh, s[i]'hh = c := fun hh => by
    have := sx_at s i hh
    rw [this] at hc0
    exact Option.some.inj hc0
  have g0 : (0 : Int) ≤ (i : Int) := by omega
  have g1 : (i : Int) < (s.size : Int) := by omega
  have hdr := sx_dropped hc0
  obtain ⟨X, hX⟩ : ∃ X, X = sxScan (s.data.toList.drop i) := ⟨_, rfl⟩
  rw [← hX]
  have hB := Bx.new 31 #[.int .i64 0, .string ⟨#[]⟩, .int .i64 0, .slice none 0 0, .int .i64 0] w
  have hE := Ev.alloc w (.cells #[.int .i64 0, .string ⟨#[]⟩, .int .i64 0, .slice none 0 0, .int .i64 0] 31)
  obtain ⟨w0, hw0⟩ : ∃ w0, w.alloc (.cells #[.int .i64 0, .string ⟨#[]⟩, .int .i64 0, .slice none 0 0, .int .i64 0] 31) = w0 := ⟨_, rfl⟩
  rw [hw0] at hB hE
  have HB := Lib.hid hB
  have HE := Lib.hid hE
  clear hB hE
  by_cases h34 : c.toNat = 34
  · have e34 : (c.toNat : Int) = 34 := by omega
    have HT := Lib.hid (fun w1 : World => rf_text s w1 hs i hi)
    rw [hdr] at hX
    simp [sxScan, h34] at hX
    have hp := sxText_props _ (s.data.toList.drop (i + 1)) [] 1 (Nat.le_refl _)
    have hn := sxText_n _ (s.data.toList.drop (i + 1)) [] 1 (Nat.le_refl _)
    rw [← hX] at hp hn HT
    have HP := Lib.hid hp
    have HN := Lib.hid hn
    clear hX hdr hc0 hp hn
    go_enter Tryd.func24, Tryd.ntmps24
    go_wp2_with (first | ((with_reducible refine (HT.out _).mono ?_); rintro e w1 ⟨sb, en, wh, rfl, HO, hE1⟩; have B1 := HB.out.ev hE1; have E1 := HE.out.trans hE1; obtain ⟨⟨c0, c1, c2, c3, c4⟩, f0, f1, f2, f3, f4⟩ := B1.five))
    (try simp only [Exit.inBlock, Exit.then])
    rw [set5_fold]
    refine bodyPost_ret (results_cell3 rfl _ _ _ _ _ rfl (B1.set5 _ _ _ _ _) Tryd.underlying31 rfl Tryd.sizeRTree) rfl ?_
    exact ⟨_, _, _, _, _, _, rfl, fun h => ⟨((HP.out.2 h).1).symm, (HO.ok h).1, HN.out.symm, rfl, (HO.ok h).2⟩, HO.bad, E1.box (set5_but _ _ _ _ _ _ _) (Nat.le_refl _)⟩
  · have e34 : ¬ ((c.toNat : Int) = 34) := by omega
    have e34' : ((c.toNat : Int) == 34) = false := beq_eq_false_iff_ne.2 e34
    have HLT := Lib.hid rf_letter
    have HC := rf_letter c
    cases hlc : sxLetter c with
    | true =>
      rw [hlc] at HC
      have HC := Lib.hid HC
      have hlc2 := hlc
      unfold sxLetter at hlc2
      simp at hlc2
      have hnd : sxDigit c = false := by unfold sxDigit; simp; omega
      rw [hdr] at hX
      simp only [sxScan, hlc, hnd, show (c.toNat == 40) = false by simp; omega, show (c.toNat == 41) = false by simp; omega, show (c.toNat == 34) = false by simp; omega, show (c.toNat == 45) = false by simp; omega] at hX
      simp at hX
      rw [← hdr] at hX
      have hrl := sxRun_le sxLetter (s.data.toList.drop i)
      rw [List.length_drop, hll] at hrl
      obtain ⟨q, hq⟩ : ∃ q, q = sxRun sxLetter (s.data.toList.drop i) := ⟨_, rfl⟩
      rw [← hq] at hX hrl
      have HX := Lib.hid hX
      have HQ := Lib.hid hq
      clear hX hdr hc0 hq hll
      go_enter Tryd.func24, Tryd.ntmps24
      go_wp2_with (first | ((with_reducible refine (HC.out _).mono ?_); rintro e w1 ⟨rfl, rfl⟩))
      go_loop [12] (fun iv => ∃ j : Nat, iv = .int .i64 (j : Int) ∧ i ≤ j ∧ j ≤ s.size ∧ Hid (sxRun sxLetter (s.data.toList.drop j) + (j - i) = q)) (fun iv => s.size - (intOf iv).toNat)
      case atStart => exact ⟨i, rfl, Nat.le_refl _, by omega, Lib.hid (by rw [HQ.out]; omega)⟩
      case round =>
        obtain ⟨j, rfl, hj0, hj1, HJ⟩ := hrel
        obtain ⟨⟨c0, c1, c2, c3, c4⟩, f0, f1, f2, f3, f4⟩ := HB.out.five
        have hi0 : (0 : Int) ≤ (i : Int) := by omega
        have hij : (i : Int) ≤ (j : Int) := by omega
        have hjs : (j : Int) ≤ (s.size : Int) := by omega
        have HXT : Hid (j - i = q → (s.extract i j) = ⟨((s.data.toList.drop i).take q).toArray⟩) := Lib.hid fun h => by
          apply ByteArray.ext
          apply Array.toList_inj.1
          rw [Lib.extract_eq, h]
        have HXE : Hid (j - i = q → (j : Int) = ((i + q : Nat) : Int)) := Lib.hid (fun h => by omega)
        by_cases hlt : j < s.size
        · have hat := sx_at s j hlt
          obtain ⟨x, ex⟩ : ∃ x, s[j] = x := ⟨_, rfl⟩
          have hx1 : ∀ hh, s[j]'hh = x := fun _ => ex
          rw [ex] at hat
          have hst := sxRun_step sxLetter s.data.toList j x hat
          have q0 : (0 : Int) ≤ (j : Int) := by omega
          have q1 : (j : Int) < (s.size : Int) := by omega
          have HXL := HLT.out x
          cases hxl : sxLetter x with
          | true =>
            rw [hxl] at HXL hst
            simp only [if_true] at hst
            have HXL := Lib.hid HXL
            have HJ2 : Hid (sxRun sxLetter (s.data.toList.drop (j + 1)) + (j + 1 - i) = q) := Lib.hid (by have := HJ.out; omega)
            clear hst hat ex
            go_wp2_with (first | ((with_reducible refine (HXL.out _).mono ?_); rintro e w1 ⟨rfl, rfl⟩))
            go_round
            case rel => exact ⟨j + 1, by go_num, by omega, by omega, HJ2⟩
            case measure => simp [intOf]; omega
          | false =>
            rw [hxl] at HXL hst
            simp only [Bool.false_eq_true, if_false] at hst
            have HXL := Lib.hid HXL
            have hjq : j - i = q := by have := HJ.out; omega
            have HJQ := Lib.hid hjq
            clear hst hat ex hjq
            go_wp2_with (first | ((with_reducible refine (HXL.out _).mono ?_); rintro e w1 ⟨rfl, rfl⟩))
            (try simp only [Exit.inBlock, Exit.then])
            rw [set5_fold]
            refine bodyPost_ret (results_cell3 rfl _ _ _ _ _ rfl (HB.out.set5 _ _ _ _ _) Tryd.underlying31 rfl Tryd.sizeRTree) rfl ?_
            exact ⟨_, _, _, _, _, _, (by rw [HX.out]; rfl), (fun _ => by rw [HX.out]; exact ⟨rfl, HXT.out HJQ.out, rfl, rfl, HXE.out HJQ.out⟩), (fun h => absurd (by rw [HX.out]) h), HE.out.box (set5_but _ _ _ _ _ _ _) (Nat.le_refl _)⟩
        · have q1 : ¬ ((j : Int) < (s.size : Int)) := by omega
          have hjq : j - i = q := by
            have := HJ.out
            rw [List.drop_of_length_le (by rw [HL.out]; omega)] at this
            simp [sxRun] at this
            exact this
          have HJQ := Lib.hid hjq
          clear hjq
          go_wp2
          (try simp only [Exit.inBlock, Exit.then])
          rw [set5_fold]
          refine bodyPost_ret (results_cell3 rfl _ _ _ _ _ rfl (HB.out.set5 _ _ _ _ _) Tryd.underlying31 rfl Tryd.sizeRTree) rfl ?_
          exact ⟨_, _, _, _, _, _, (by rw [HX.out]; rfl), (fun _ => by rw [HX.out]; exact ⟨rfl, HXT.out HJQ.out, rfl, rfl, HXE.out HJQ.out⟩), (fun h => absurd (by rw [HX.out]) h), HE.out.box (set5_but _ _ _ _ _ _ _) (Nat.le_refl _)⟩
    | false =>
      rw [hlc] at HC
      have HC := Lib.hid HC
      have hk2 : c.toNat = 45 ∨ sxDigit c = true := by
        rcases hk with h | h | h | h
        · exact absurd h h34
        · exact .inl h
        · rw [hlc] at h; cases h
        · exact .inr h
      have hX2 : X = sxNumber (s.data.toList.drop i) := by
        rw [hX, hdr]
        have h4 : (c.toNat == 40) = false ∧ (c.toNat == 41) = false := by
          rcases hk2 with h | h
          · simp [h]
          · unfold sxDigit at h; simp at h; simp; omega
        have h5 : (c.toNat == 45 || sxDigit c) = true := by simp; exact hk2
        simp only [sxScan, h4.1, h4.2, h5, show (c.toNat == 34) = false by simp; omega]
        simp
      have HN := fun w1 => rf_number s w1 hs i c hi hc0
      rw [← hX2] at HN
      have HN := Lib.hid HN
      have HX3 : Hid (X.why = 0 → X.kind = 3 ∧ X.s = []) := Lib.hid (by rw [hX2]; exact sxNumber_kind _)
      have HX4 : Hid (X.why ≠ 0 → X.why = 12 ∧ X.fault = 0) := Lib.hid (by rw [hX2]; exact sxNumber_bad _)
      obtain ⟨wy, hwy⟩ : ∃ wy, wy = X.why := ⟨_, rfl⟩
      rw [← hwy] at HN
      clear hX hX2 hdr hc0
      by_cases hw : wy = 0
      · have hwb : (wy == 0) = true := by rw [hw]; rfl
        rw [hwb] at HN
        subst hw
        have HW := Lib.hid hwy
        clear hwy hwb
        go_enter Tryd.func24, Tryd.ntmps24
        go_wp2_with (first
          | ((with_reducible refine (HC.out _).mono ?_); rintro e w1 ⟨rfl, rfl⟩)
          | ((with_reducible refine (HN.out _).mono ?_); rintro e w1 ⟨j, rfl, hj, hE1⟩; have HJ := Lib.hid (hj (by simp)); clear hj; have B1 := HB.out.ev hE1; have E1 := HE.out.trans hE1; obtain ⟨⟨c0, c1, c2, c3, c4⟩, f0, f1, f2, f3, f4⟩ := B1.five))
        (try simp only [Exit.inBlock, Exit.then])
        rw [set5_fold]
        refine bodyPost_ret (results_cell3 rfl _ _ _ _ _ rfl (B1.set5 _ _ _ _ _) Tryd.underlying31 rfl Tryd.sizeRTree) rfl ?_
        exact ⟨_, _, _, _, _, _, by rw [← HW.out]; rfl, (fun h => ⟨((HX3.out h).1).symm, (by rw [(HX3.out h).2]), rfl, rfl, (by rw [HJ.out])⟩), (fun h => absurd HW.out.symm h), E1.box (set5_but _ _ _ _ _ _ _) (Nat.le_refl _)⟩
      · have hwb : (wy == 0) = false := beq_eq_false_iff_ne.2 hw
        rw [hwb] at HN
        have HW := Lib.hid hwy
        have HW2 := Lib.hid hw
        clear hwy hwb hw
        go_enter Tryd.func24, Tryd.ntmps24
        go_wp2_with (first
          | ((with_reducible refine (HC.out _).mono ?_); rintro e w1 ⟨rfl, rfl⟩)
          | ((with_reducible refine (HN.out _).mono ?_); rintro e w1 ⟨j, rfl, hj, hE1⟩; clear hj; have B1 := HB.out.ev hE1; have E1 := HE.out.trans hE1; obtain ⟨⟨c0, c1, c2, c3, c4⟩, f0, f1, f2, f3, f4⟩ := B1.five))
        (try simp only [Exit.inBlock, Exit.then])
        rw [set5_fold]
        refine bodyPost_ret (results_cell3 rfl _ _ _ _ _ rfl (B1.set5 _ _ _ _ _) Tryd.underlying31 rfl Tryd.sizeRTree) rfl ?_
        exact ⟨_, _, _, _, _, _, by rw [(HX4.out (by rw [← HW.out]; exact HW2.out)).1]; rfl, (fun h => absurd (HW.out.trans h) HW2.out), (fun h => by rw [(HX4.out h).2]; rfl), E1.box (set5_but _ _ _ _ _ _ _) (Nat.le_refl _)⟩
end Go.Proofs.YtiiogjpgeginlaaDoor
