/-
  Package sexp: the sorts of bytes, and how many at the beginning are of one sort.
-/
import Derived.Test.YtjffppfgappikaaSa
import Derived.BigQuiet
import Derived.Deep.QuietTactic
import Derived.WalkMore
namespace Go.Proofs.Ytjffppfgappikaa
open Go.RowKit
set_option linter.unusedVariables false

theorem sx_getD_at (s : ByteArray) (k : Nat) (h : k < s.size) : s[k] = s.data.toList.getD k 0 := by
  obtain ⟨a⟩ := s
  have h2 : k < a.size := h
  show a[k] = _
  simp [List.getD, h2]
theorem sx_at (s : ByteArray) (k : Nat) (h : k < s.size) : s.data.toList[k]? = some s[k] := by
  rw [sx_getD_at s k h]
  have h2 : k < s.data.toList.length := by rw [Array.length_toList]; exact h
  simp [List.getD, List.getElem?_eq_getElem h2]

set_option maxRecDepth 100000 in
theorem sx_isBlank (c : UInt8) (w : World) :
    Calls Try.prog 9 #[.int .u8 (c.toNat : Int)] w fun e w' => e = .returned (.bool (sxBlank c)) ∧ w = w' := by
  by_cases h1 : (c.toNat : Int) = 32
  · have e : sxBlank c = true := by unfold sxBlank; simp; omega
    rw [e]
    go_enter Try.func9, Try.ntmps9
    go_wp2
    go_ret
    exact ⟨rfl, rfl⟩
  · have e : sxBlank c = ((c.toNat : Int) == 10) := by unfold sxBlank; rw [Bool.eq_iff_iff]; simp; omega
    have h1' : ((c.toNat : Int) == 32) = false := beq_eq_false_iff_ne.2 h1
    rw [e]
    go_enter Try.func9, Try.ntmps9
    go_wp2
    go_ret
    exact ⟨rfl, rfl⟩

set_option maxRecDepth 100000 in
theorem sx_isLetter (c : UInt8) (w : World) :
    Calls Try.prog 18 #[.int .u8 (c.toNat : Int)] w fun e w' => e = .returned (.bool (sxLetter c)) ∧ w = w' := by
  by_cases h1 : (97 : Int) ≤ (c.toNat : Int)
  · have e : sxLetter c = decide ((c.toNat : Int) ≤ 122) := by unfold sxLetter; rw [Bool.eq_iff_iff]; simp; omega
    rw [e]
    go_enter Try.func18, Try.ntmps18
    go_wp2
    go_ret
    exact ⟨rfl, rfl⟩
  · have e : sxLetter c = false := by unfold sxLetter; rw [Bool.eq_iff_iff]; simp; omega
    rw [e]
    go_enter Try.func18, Try.ntmps18
    go_wp2
    go_ret
    exact ⟨rfl, rfl⟩

set_option maxRecDepth 100000 in
theorem sx_isDigit (c : UInt8) (w : World) :
    Calls Try.prog 16 #[.int .u8 (c.toNat : Int)] w fun e w' => e = .returned (.bool (sxDigit c)) ∧ w = w' := by
  by_cases h1 : (48 : Int) ≤ (c.toNat : Int)
  · have e : sxDigit c = decide ((c.toNat : Int) ≤ 57) := by unfold sxDigit; rw [Bool.eq_iff_iff]; simp; omega
    rw [e]
    go_enter Try.func16, Try.ntmps16
    go_wp2
    go_ret
    exact ⟨rfl, rfl⟩
  · have e : sxDigit c = false := by unfold sxDigit; rw [Bool.eq_iff_iff]; simp; omega
    rw [e]
    go_enter Try.func16, Try.ntmps16
    go_wp2
    go_ret
    exact ⟨rfl, rfl⟩

set_option maxRecDepth 100000 in
theorem sx_isPlain (c : UInt8) (w : World) :
    Calls Try.prog 22 #[.int .u8 (c.toNat : Int)] w fun e w' => e = .returned (.bool (sxPlain c)) ∧ w = w' := by
  by_cases h1 : (32 : Int) ≤ (c.toNat : Int)
  · by_cases h2 : (c.toNat : Int) ≤ 126
    · by_cases h3 : (c.toNat : Int) = 34
      · have e : sxPlain c = false := by unfold sxPlain; rw [Bool.eq_iff_iff]; simp; omega
        rw [e]
        go_enter Try.func22, Try.ntmps22
        go_wp2
        go_ret
        exact ⟨rfl, rfl⟩
      · have e : sxPlain c = ((c.toNat : Int) != 34 && (c.toNat : Int) != 92) := by unfold sxPlain; rw [Bool.eq_iff_iff]; simp; omega
        rw [e]
        go_enter Try.func22, Try.ntmps22
        go_wp2
        go_ret
        exact ⟨rfl, rfl⟩
    · have e : sxPlain c = false := by unfold sxPlain; rw [Bool.eq_iff_iff]; simp; omega
      rw [e]
      go_enter Try.func22, Try.ntmps22
      go_wp2
      go_ret
      exact ⟨rfl, rfl⟩
  · have e : sxPlain c = false := by unfold sxPlain; rw [Bool.eq_iff_iff]; simp; omega
    rw [e]
    go_enter Try.func22, Try.ntmps22
    go_wp2
    go_ret
    exact ⟨rfl, rfl⟩

set_option maxRecDepth 100000 in
set_option maxHeartbeats 800000 in
theorem sx_run_isBlank (s : ByteArray) (w : World) (hs : s.size ≤ 9223372036854775806) :
    Calls Try.prog 8 #[.string s, .func (.func 9) #[] #[]] w fun e w' => e = .returned (.int .i64 (sxRun sxBlank s.data.toList : Int)) ∧ w = w' := by
  have hll : s.data.toList.length = s.size := by rw [Array.length_toList]; rfl
  have HL := Lib.hid hll
  clear hll
  have HP := Lib.hid sx_isBlank
  go_enter Try.func8, Try.ntmps8
  go_wp2
  go_loop [5] (fun i => ∃ k : Nat, k ≤ s.size ∧ i = .int .i64 (k : Int) ∧ Hid (sxRun sxBlank s.data.toList = k + sxRun sxBlank (s.data.toList.drop k))) (fun i => s.size - (intOf i).toNat)
  case atStart => exact ⟨0, Nat.zero_le _, rfl, Lib.hid (by simp)⟩
  case round =>
    obtain ⟨k, hk, rfl, HK⟩ := hrel
    by_cases hlt : k < s.size
    · have HS := Lib.hid (sxRun_step sxBlank s.data.toList k _ (sx_at s k hlt))
      obtain ⟨c, hc⟩ : ∃ c, s[k] = c := ⟨_, rfl⟩
      have hidx : ∀ hh, s[k]'hh = c := fun _ => hc
      rw [hc] at HS
      clear hc
      have HC := HP.out c
      cases hp : sxBlank c
      · rw [hp] at HC HS
        have HC := Lib.hid HC
        clear hp
        go_wp2_with (first | ((with_reducible refine (HC.out _).mono ?_); rintro x w1 ⟨rfl, rfl⟩))
        go_ret
        refine ⟨?_, rfl⟩
        rw [HK.out, HS.out]
        rfl
      · rw [hp] at HC HS
        have HC := Lib.hid HC
        clear hp
        go_wp2_with (first | ((with_reducible refine (HC.out _).mono ?_); rintro x w1 ⟨rfl, rfl⟩))
        go_round
        case rel => exact ⟨k + 1, by omega, by go_num, Lib.hid (by rw [HK.out, HS.out]; simp only [if_true]; omega)⟩
        case measure => simp [intOf]; omega
    · obtain rfl : k = s.size := by omega
      have HZ : Hid (sxRun sxBlank s.data.toList = s.size) := Lib.hid (by rw [HK.out, List.drop_of_length_le (by rw [HL.out]; exact Nat.le_refl _)]; rfl)
      clear HK
      go_wp2
      go_ret
      rw [HZ.out]
      exact ⟨rfl, rfl⟩

set_option maxRecDepth 100000 in
set_option maxHeartbeats 800000 in
theorem sx_run_isLetter (s : ByteArray) (w : World) (hs : s.size ≤ 9223372036854775806) :
    Calls Try.prog 8 #[.string s, .func (.func 18) #[] #[]] w fun e w' => e = .returned (.int .i64 (sxRun sxLetter s.data.toList : Int)) ∧ w = w' := by
  have hll : s.data.toList.length = s.size := by rw [Array.length_toList]; rfl
  have HL := Lib.hid hll
  clear hll
  have HP := Lib.hid sx_isLetter
  go_enter Try.func8, Try.ntmps8
  go_wp2
  go_loop [5] (fun i => ∃ k : Nat, k ≤ s.size ∧ i = .int .i64 (k : Int) ∧ Hid (sxRun sxLetter s.data.toList = k + sxRun sxLetter (s.data.toList.drop k))) (fun i => s.size - (intOf i).toNat)
  case atStart => exact ⟨0, Nat.zero_le _, rfl, Lib.hid (by simp)⟩
  case round =>
    obtain ⟨k, hk, rfl, HK⟩ := hrel
    by_cases hlt : k < s.size
    · have HS := Lib.hid (sxRun_step sxLetter s.data.toList k _ (sx_at s k hlt))
      obtain ⟨c, hc⟩ : ∃ c, s[k] = c := ⟨_, rfl⟩
      have hidx : ∀ hh, s[k]'hh = c := fun _ => hc
      rw [hc] at HS
      clear hc
      have HC := HP.out c
      cases hp : sxLetter c
      · rw [hp] at HC HS
        have HC := Lib.hid HC
        clear hp
        go_wp2_with (first | ((with_reducible refine (HC.out _).mono ?_); rintro x w1 ⟨rfl, rfl⟩))
        go_ret
        refine ⟨?_, rfl⟩
        rw [HK.out, HS.out]
        rfl
      · rw [hp] at HC HS
        have HC := Lib.hid HC
        clear hp
        go_wp2_with (first | ((with_reducible refine (HC.out _).mono ?_); rintro x w1 ⟨rfl, rfl⟩))
        go_round
        case rel => exact ⟨k + 1, by omega, by go_num, Lib.hid (by rw [HK.out, HS.out]; simp only [if_true]; omega)⟩
        case measure => simp [intOf]; omega
    · obtain rfl : k = s.size := by omega
      have HZ : Hid (sxRun sxLetter s.data.toList = s.size) := Lib.hid (by rw [HK.out, List.drop_of_length_le (by rw [HL.out]; exact Nat.le_refl _)]; rfl)
      clear HK
      go_wp2
      go_ret
      rw [HZ.out]
      exact ⟨rfl, rfl⟩

set_option maxRecDepth 100000 in
set_option maxHeartbeats 800000 in
theorem sx_run_isDigit (s : ByteArray) (w : World) (hs : s.size ≤ 9223372036854775806) :
    Calls Try.prog 8 #[.string s, .func (.func 16) #[] #[]] w fun e w' => e = .returned (.int .i64 (sxRun sxDigit s.data.toList : Int)) ∧ w = w' := by
  have hll : s.data.toList.length = s.size := by rw [Array.length_toList]; rfl
  have HL := Lib.hid hll
  clear hll
  have HP := Lib.hid sx_isDigit
  go_enter Try.func8, Try.ntmps8
  go_wp2
  go_loop [5] (fun i => ∃ k : Nat, k ≤ s.size ∧ i = .int .i64 (k : Int) ∧ Hid (sxRun sxDigit s.data.toList = k + sxRun sxDigit (s.data.toList.drop k))) (fun i => s.size - (intOf i).toNat)
  case atStart => exact ⟨0, Nat.zero_le _, rfl, Lib.hid (by simp)⟩
  case round =>
    obtain ⟨k, hk, rfl, HK⟩ := hrel
    by_cases hlt : k < s.size
    · have HS := Lib.hid (sxRun_step sxDigit s.data.toList k _ (sx_at s k hlt))
      obtain ⟨c, hc⟩ : ∃ c, s[k] = c := ⟨_, rfl⟩
      have hidx : ∀ hh, s[k]'hh = c := fun _ => hc
      rw [hc] at HS
      clear hc
      have HC := HP.out c
      cases hp : sxDigit c
      · rw [hp] at HC HS
        have HC := Lib.hid HC
        clear hp
        go_wp2_with (first | ((with_reducible refine (HC.out _).mono ?_); rintro x w1 ⟨rfl, rfl⟩))
        go_ret
        refine ⟨?_, rfl⟩
        rw [HK.out, HS.out]
        rfl
      · rw [hp] at HC HS
        have HC := Lib.hid HC
        clear hp
        go_wp2_with (first | ((with_reducible refine (HC.out _).mono ?_); rintro x w1 ⟨rfl, rfl⟩))
        go_round
        case rel => exact ⟨k + 1, by omega, by go_num, Lib.hid (by rw [HK.out, HS.out]; simp only [if_true]; omega)⟩
        case measure => simp [intOf]; omega
    · obtain rfl : k = s.size := by omega
      have HZ : Hid (sxRun sxDigit s.data.toList = s.size) := Lib.hid (by rw [HK.out, List.drop_of_length_le (by rw [HL.out]; exact Nat.le_refl _)]; rfl)
      clear HK
      go_wp2
      go_ret
      rw [HZ.out]
      exact ⟨rfl, rfl⟩

set_option maxRecDepth 100000 in
set_option maxHeartbeats 800000 in
theorem sx_run_isPlain (s : ByteArray) (w : World) (hs : s.size ≤ 9223372036854775806) :
    Calls Try.prog 8 #[.string s, .func (.func 22) #[] #[]] w fun e w' => e = .returned (.int .i64 (sxRun sxPlain s.data.toList : Int)) ∧ w = w' := by
  have hll : s.data.toList.length = s.size := by rw [Array.length_toList]; rfl
  have HL := Lib.hid hll
  clear hll
  have HP := Lib.hid sx_isPlain
  go_enter Try.func8, Try.ntmps8
  go_wp2
  go_loop [5] (fun i => ∃ k : Nat, k ≤ s.size ∧ i = .int .i64 (k : Int) ∧ Hid (sxRun sxPlain s.data.toList = k + sxRun sxPlain (s.data.toList.drop k))) (fun i => s.size - (intOf i).toNat)
  case atStart => exact ⟨0, Nat.zero_le _, rfl, Lib.hid (by simp)⟩
  case round =>
    obtain ⟨k, hk, rfl, HK⟩ := hrel
    by_cases hlt : k < s.size
    · have HS := Lib.hid (sxRun_step sxPlain s.data.toList k _ (sx_at s k hlt))
      obtain ⟨c, hc⟩ : ∃ c, s[k] = c := ⟨_, rfl⟩
      have hidx : ∀ hh, s[k]'hh = c := fun _ => hc
      rw [hc] at HS
      clear hc
      have HC := HP.out c
      cases hp : sxPlain c
      · rw [hp] at HC HS
        have HC := Lib.hid HC
        clear hp
        go_wp2_with (first | ((with_reducible refine (HC.out _).mono ?_); rintro x w1 ⟨rfl, rfl⟩))
        go_ret
        refine ⟨?_, rfl⟩
        rw [HK.out, HS.out]
        rfl
      · rw [hp] at HC HS
        have HC := Lib.hid HC
        clear hp
        go_wp2_with (first | ((with_reducible refine (HC.out _).mono ?_); rintro x w1 ⟨rfl, rfl⟩))
        go_round
        case rel => exact ⟨k + 1, by omega, by go_num, Lib.hid (by rw [HK.out, HS.out]; simp only [if_true]; omega)⟩
        case measure => simp [intOf]; omega
    · obtain rfl : k = s.size := by omega
      have HZ : Hid (sxRun sxPlain s.data.toList = s.size) := Lib.hid (by rw [HK.out, List.drop_of_length_le (by rw [HL.out]; exact Nat.le_refl _)]; rfl)
      clear HK
      go_wp2
      go_ret
      rw [HZ.out]
      exact ⟨rfl, rfl⟩
end Go.Proofs.Ytjffppfgappikaa
