/-
  Texts that belong together: The contracts of package row: names and columns. The document's own Name, Find and Right (chapter 5). The document's own Less, Same and Fits (chapter 5).
-/
import Derived.Lib.AtoiErrMem
import Derived.WalkSmall
import Derived.Test.YtojbahjebfcmgaaGreatDoorZ6W
namespace Go.Proofs.YtojbahjebfcmgaaGreatDoor
open Go.RowKit
set_option linter.unusedVariables false

theorem tl (s : ByteArray) : s.toList = s.data.toList := by
  obtain ⟨⟨x⟩⟩ := s
  simp
theorem word_yes {x W : List UInt8} (h : (x == W) = true) (hm : words.contains W = true) : words.contains x = true := by
  rw [beq_iff_eq] at h
  rw [h]
  exact hm

set_option maxRecDepth 100000 in
set_option maxHeartbeats 4000000 in
theorem row_isWord (s : ByteArray) (w : World) :
    Calls Tryz.prog 90 #[.string s] w fun e w' => e = .returned (.bool (words.contains s.data.toList)) ∧ w = w' := by
  rw [← tl]
  cases e0 : (s.toList == [116, 97, 98, 108, 101])
  case true =>
    have HF := Lib.hid (word_yes e0 rfl)
    go_enter Tryz.func90, Tryz.ntmps90
    go_wp2
    go_ret
    exact ⟨by rw [HF.out]; rfl, rfl⟩
  cases e1 : (s.toList == [102, 105, 108, 116, 101, 114])
  case true =>
    have HF := Lib.hid (word_yes e1 rfl)
    go_enter Tryz.func90, Tryz.ntmps90
    go_wp2
    go_ret
    exact ⟨by rw [HF.out]; rfl, rfl⟩
  cases e2 : (s.toList == [112, 114, 111, 106, 101, 99, 116])
  case true =>
    have HF := Lib.hid (word_yes e2 rfl)
    go_enter Tryz.func90, Tryz.ntmps90
    go_wp2
    go_ret
    exact ⟨by rw [HF.out]; rfl, rfl⟩
  cases e3 : (s.toList == [106, 111, 105, 110])
  case true =>
    have HF := Lib.hid (word_yes e3 rfl)
    go_enter Tryz.func90, Tryz.ntmps90
    go_wp2
    go_ret
    exact ⟨by rw [HF.out]; rfl, rfl⟩
  cases e4 : (s.toList == [117, 110, 105, 111, 110])
  case true =>
    have HF := Lib.hid (word_yes e4 rfl)
    go_enter Tryz.func90, Tryz.ntmps90
    go_wp2
    go_ret
    exact ⟨by rw [HF.out]; rfl, rfl⟩
  cases e5 : (s.toList == [100, 105, 115, 116, 105, 110, 99, 116])
  case true =>
    have HF := Lib.hid (word_yes e5 rfl)
    go_enter Tryz.func90, Tryz.ntmps90
    go_wp2
    go_ret
    exact ⟨by rw [HF.out]; rfl, rfl⟩
  cases e6 : (s.toList == [103, 114, 111, 117, 112])
  case true =>
    have HF := Lib.hid (word_yes e6 rfl)
    go_enter Tryz.func90, Tryz.ntmps90
    go_wp2
    go_ret
    exact ⟨by rw [HF.out]; rfl, rfl⟩
  cases e7 : (s.toList == [99, 111, 117, 110, 116])
  case true =>
    have HF := Lib.hid (word_yes e7 rfl)
    go_enter Tryz.func90, Tryz.ntmps90
    go_wp2
    go_ret
    exact ⟨by rw [HF.out]; rfl, rfl⟩
  cases e8 : (s.toList == [115, 117, 109])
  case true =>
    have HF := Lib.hid (word_yes e8 rfl)
    go_enter Tryz.func90, Tryz.ntmps90
    go_wp2
    go_ret
    exact ⟨by rw [HF.out]; rfl, rfl⟩
  cases e9 : (s.toList == [109, 105, 110])
  case true =>
    have HF := Lib.hid (word_yes e9 rfl)
    go_enter Tryz.func90, Tryz.ntmps90
    go_wp2
    go_ret
    exact ⟨by rw [HF.out]; rfl, rfl⟩
  cases e10 : (s.toList == [109, 97, 120])
  case true =>
    have HF := Lib.hid (word_yes e10 rfl)
    go_enter Tryz.func90, Tryz.ntmps90
    go_wp2
    go_ret
    exact ⟨by rw [HF.out]; rfl, rfl⟩
  cases e11 : (s.toList == [97, 100, 100])
  case true =>
    have HF := Lib.hid (word_yes e11 rfl)
    go_enter Tryz.func90, Tryz.ntmps90
    go_wp2
    go_ret
    exact ⟨by rw [HF.out]; rfl, rfl⟩
  cases e12 : (s.toList == [115, 117, 98])
  case true =>
    have HF := Lib.hid (word_yes e12 rfl)
    go_enter Tryz.func90, Tryz.ntmps90
    go_wp2
    go_ret
    exact ⟨by rw [HF.out]; rfl, rfl⟩
  cases e13 : (s.toList == [109, 117, 108])
  case true =>
    have HF := Lib.hid (word_yes e13 rfl)
    go_enter Tryz.func90, Tryz.ntmps90
    go_wp2
    go_ret
    exact ⟨by rw [HF.out]; rfl, rfl⟩
  cases e14 : (s.toList == [110, 101, 103])
  case true =>
    have HF := Lib.hid (word_yes e14 rfl)
    go_enter Tryz.func90, Tryz.ntmps90
    go_wp2
    go_ret
    exact ⟨by rw [HF.out]; rfl, rfl⟩
  cases e15 : (s.toList == [101, 113])
  case true =>
    have HF := Lib.hid (word_yes e15 rfl)
    go_enter Tryz.func90, Tryz.ntmps90
    go_wp2
    go_ret
    exact ⟨by rw [HF.out]; rfl, rfl⟩
  cases e16 : (s.toList == [108, 116])
  case true =>
    have HF := Lib.hid (word_yes e16 rfl)
    go_enter Tryz.func90, Tryz.ntmps90
    go_wp2
    go_ret
    exact ⟨by rw [HF.out]; rfl, rfl⟩
  cases e17 : (s.toList == [97, 110, 100])
  case true =>
    have HF := Lib.hid (word_yes e17 rfl)
    go_enter Tryz.func90, Tryz.ntmps90
    go_wp2
    go_ret
    exact ⟨by rw [HF.out]; rfl, rfl⟩
  cases e18 : (s.toList == [111, 114])
  case true =>
    have HF := Lib.hid (word_yes e18 rfl)
    go_enter Tryz.func90, Tryz.ntmps90
    go_wp2
    go_ret
    exact ⟨by rw [HF.out]; rfl, rfl⟩
  cases e19 : (s.toList == [110, 111, 116])
  case true =>
    have HF := Lib.hid (word_yes e19 rfl)
    go_enter Tryz.func90, Tryz.ntmps90
    go_wp2
    go_ret
    exact ⟨by rw [HF.out]; rfl, rfl⟩
  cases e20 : (s.toList == [99, 97, 116])
  case true =>
    have HF := Lib.hid (word_yes e20 rfl)
    go_enter Tryz.func90, Tryz.ntmps90
    go_wp2
    go_ret
    exact ⟨by rw [HF.out]; rfl, rfl⟩
  cases e21 : (s.toList == [108, 101, 110])
  case true =>
    have HF := Lib.hid (word_yes e21 rfl)
    go_enter Tryz.func90, Tryz.ntmps90
    go_wp2
    go_ret
    exact ⟨by rw [HF.out]; rfl, rfl⟩
  cases e22 : (s.toList == [105, 102])
  case true =>
    have HF := Lib.hid (word_yes e22 rfl)
    go_enter Tryz.func90, Tryz.ntmps90
    go_wp2
    go_ret
    exact ⟨by rw [HF.out]; rfl, rfl⟩
  have HF : Hid (words.contains s.toList = false) := Lib.hid (by simp only [words, List.contains_cons, List.contains_nil, e0, e1, e2, e3, e4, e5, e6, e7, e8, e9, e10, e11, e12, e13, e14, e15, e16, e17, e18, e19, e20, e21, e22, Bool.or_false])
  go_enter Tryz.func90, Tryz.ntmps90
  go_wp2
  go_ret
  exact ⟨by rw [HF.out]; rfl, rfl⟩

theorem letters_take {l : List UInt8} {k : Nat} {c : UInt8} (hk : k < l.length) (hc : l.getD k 0 = c) : (l.take (k + 1)).all letterB = ((l.take k).all letterB && letterB c) := by
  rw [List.take_succ_eq_append_getElem hk, List.all_append]
  simp [List.getD, hk] at hc
  simp [hc]
theorem letters_not {l : List UInt8} {k : Nat} {c : UInt8} (hk : k < l.length) (hc : l.getD k 0 = c) (h : letterB c = false) : l.all letterB = false := by
  rw [List.all_eq_false]
  simp [List.getD, hk] at hc
  exact ⟨c, hc ▸ List.getElem_mem hk, by simp [h]⟩
theorem nameV_long {s : ByteArray} (h : ¬ (1 ≤ s.size ∧ s.size ≤ 12)) : nameV s = false := by
  unfold nameV
  by_cases h1 : 1 ≤ s.size
  · rw [decide_eq_false (p := s.size ≤ 12) (fun h2 => h ⟨h1, h2⟩)]; simp
  · rw [decide_eq_false h1]; rfl
theorem nameV_in {s : ByteArray} (h1 : 1 ≤ s.size) (h2 : s.size ≤ 12) : nameV s = (s.data.toList.all letterB && !words.contains s.data.toList) := by
  unfold nameV
  rw [decide_eq_true h1, decide_eq_true h2]; rfl

set_option maxRecDepth 100000 in
set_option maxHeartbeats 4000000 in
theorem row_name (s : ByteArray) (w : World) :
    Calls Tryz.prog 43 #[.string s] w fun e w' => e = .returned (.bool (nameV s)) ∧ Ev w w' := by
  by_cases h1 : 1 ≤ s.size
  · by_cases h2 : s.size ≤ 12
    · rw [nameV_in h1 h2]
      have HW := Lib.hid (fun w1 => row_isWord s w1)
      generalize words.contains s.data.toList = wd at *
      obtain ⟨al, hal⟩ : ∃ al, s.data.toList.all letterB = al := ⟨_, rfl⟩
      rw [hal]
      have HAL := Lib.hid hal
      clear hal
      have i1 : ¬ (s.size : Int) < 1 := by omega
      have i2 : ¬ (12 : Int) < (s.size : Int) := by omega
      have hcv := Lib.run_convert_string_bytes (P := Tryz.prog) w 9 139 5 s Tryz.underlying9 Tryz.underlying139 Tryz.underlying5
      go_enter Tryz.func43, Tryz.ntmps43
      go_wp2
      obtain ⟨g, hg⟩ : ∃ g, g = w.heap.size := ⟨_, rfl⟩
      obtain ⟨cap, hcap⟩ : ∃ cap, cap = grownCap w s.size 0 5 := ⟨_, rfl⟩
      obtain ⟨n, hn⟩ : ∃ n, n = s.size := ⟨_, rfl⟩
      have hle : n ≤ cap := by rw [hn, hcap]; exact grownCap_ge _ _ _ _
      have hmx : cap ≤ maxLen := by rw [hcap]; exact grownCap_le_maxLen _ _ _ _ (by unfold maxLen; omega)
      have hll : s.data.toList.length = n := by rw [hn, Array.length_toList]; rfl
      have hEc : Ev w (Lib.bytesWorld w 5 s) := Lib.bytesWorld_below w 5 s
      have hcell : ∀ i, i < n → (Lib.bytesWorld w 5 s).cell? ⟨g, i, none⟩ = some (.int .u8 ((s.data.toList.getD i 0).toNat : Int)) := fun i hi => by rw [hg]; exact Lib.bytesWorld_cell w 5 s i (by omega)
      rw [← hg, ← hcap, ← hn]
      generalize Lib.bytesWorld w 5 s = w2 at *
      have HL := Lib.hid hll
      have HN := Lib.hid hn
      unfold maxLen at hmx
      rw [← hn] at i1 i2
      clear hcv hg hcap hll hn h1 h2
      go_loop [16] (fun i => ∃ k : Nat, k ≤ n ∧ i = .int .i64 (k : Int) ∧ Hid ((s.data.toList.take k).all letterB = true)) (fun i => n - (intOf i).toNat)
      case atStart => exact ⟨0, Nat.zero_le _, rfl, Lib.hid rfl⟩
      case round =>
        obtain ⟨k, hk, rfl, HT⟩ := hrel
        by_cases hlt : k < n
        · have hc := hcell k hlt
          obtain ⟨x, hx⟩ : ∃ x, s.data.toList.getD k 0 = x := ⟨_, rfl⟩
          rw [hx] at hc
          have HX := Lib.hid hx
          clear hx hcell
          by_cases l1 : 97 ≤ x.toNat
          · have j1 : ¬ ((x.toNat : Int) < 97) := by omega
            by_cases l2 : x.toNat ≤ 122
            · have j2 : ¬ ((122 : Int) < (x.toNat : Int)) := by omega
              have HF : Hid ((s.data.toList.take (k + 1)).all letterB = true) := Lib.hid (by rw [letters_take (by rw [HL.out]; exact hlt) HX.out, HT.out]; unfold letterB; rw [decide_eq_true l1, decide_eq_true l2]; rfl)
              clear l1 l2
              go_wp2
              go_round
              case rel => exact ⟨k + 1, by omega, by go_num, HF⟩
              case measure => simp [intOf]; omega
            · have j2 : (122 : Int) < (x.toNat : Int) := by omega
              have HF : Hid (s.data.toList.all letterB = false) := Lib.hid (letters_not (by rw [HL.out]; exact hlt) HX.out (by unfold letterB; rw [decide_eq_false l2]; simp))
              clear l1 l2
              go_wp2
              go_ret
              exact ⟨by rw [← HAL.out, HF.out]; rfl, hEc⟩
          · have j1 : (x.toNat : Int) < 97 := by omega
            have HF : Hid (s.data.toList.all letterB = false) := Lib.hid (letters_not (by rw [HL.out]; exact hlt) HX.out (by unfold letterB; rw [decide_eq_false l1]; rfl))
            clear l1
            go_wp2
            go_ret
            exact ⟨by rw [← HAL.out, HF.out]; rfl, hEc⟩
        · obtain rfl : k = n := by omega
          have HF : Hid (s.data.toList.all letterB = true) := Lib.hid (by
            have := HT.out
            rwa [List.take_of_length_le (by rw [HL.out]; exact Nat.le_refl _)] at this)
          go_wp2_with (first | ((with_reducible refine (HW.out _).mono ?_); rintro y w3 ⟨rfl, rfl⟩))
          go_ret
          exact ⟨by rw [← HAL.out, HF.out]; rfl, hEc⟩
    · rw [nameV_long (fun h => h2 h.2)]
      have i1 : ¬ (s.size : Int) < 1 := by omega
      have i2 : (12 : Int) < (s.size : Int) := by omega
      go_enter Tryz.func43, Tryz.ntmps43
      go_wp2
      go_ret
      exact ⟨rfl, Ev.refl _⟩
  · rw [nameV_long (fun h => h1 h.1)]
    have i1 : (s.size : Int) < 1 := by omega
    go_enter Tryz.func43, Tryz.ntmps43
    go_wp2
    go_ret
    exact ⟨rfl, Ev.refl _⟩

end Go.Proofs.YtojbahjebfcmgaaGreatDoor

namespace Go.Proofs.YtojbahjebfcmgaaGreatDoor
open Go.RowKit
set_option linter.unusedVariables false

end Go.Proofs.YtojbahjebfcmgaaGreatDoor

namespace Go.Proofs.YtojbahjebfcmgaaGreatDoor
open Go.RowKit
set_option linter.unusedVariables false

end Go.Proofs.YtojbahjebfcmgaaGreatDoor
