/-
  Texts that belong together: The contracts of package row: names and columns. The document's own Name, Find and Right (chapter 5). The document's own Less, Same and Fits (chapter 5).
-/
import Derived.Lib.AtoiErrMem
import Derived.WalkSmall
import Derived.Test.YtgiofdmedhhobaaZ5N
namespace Go.Proofs.Ytgiofdmedhhobaa
open Go.RowKit
set_option linter.unusedVariables false

theorem tl (s : ByteArray) : s.toList = s.data.toList := by
  obtain ⟨⟨x⟩⟩ := s
  simp
theorem word_yes {x W : List UInt8} (h : (x == W) = true) (hm : words.contains W = true) : words.contains x = true := by
  rw [beq_iff_eq] at h
  rw [h]
  exact hm

set_option maxRecDepth 100000 in
set_option maxHeartbeats 4000000 in
theorem row_isWord (s : ByteArray) (w : World) :
    Calls Try.prog 66 #[.string s] w fun e w' => e = .returned (.bool (words.contains s.data.toList)) ∧ w = w' := by
  rw [← tl]
  cases e0 : (s.toList == [116, 97, 98, 108, 101])
  case true =>
    have HF := Lib.hid (word_yes e0 rfl)
    go_enter Try.func66, Try.ntmps66
    go_wp2
    go_ret
    exact ⟨by rw [HF.out]; rfl, rfl⟩
  cases e1 : (s.toList == [102, 105, 108, 116, 101, 114])
  case true =>
    have HF := Lib.hid (word_yes e1 rfl)
    go_enter Try.func66, Try.ntmps66
    go_wp2
    go_ret
    exact ⟨by rw [HF.out]; rfl, rfl⟩
  cases e2 : (s.toList == [112, 114, 111, 106, 101, 99, 116])
  case true =>
    have HF := Lib.hid (word_yes e2 rfl)
    go_enter Try.func66, Try.ntmps66
    go_wp2
    go_ret
    exact ⟨by rw [HF.out]; rfl, rfl⟩
  cases e3 : (s.toList == [106, 111, 105, 110])
  case true =>
    have HF := Lib.hid (word_yes e3 rfl)
    go_enter Try.func66, Try.ntmps66
    go_wp2
    go_ret
    exact ⟨by rw [HF.out]; rfl, rfl⟩
  cases e4 : (s.toList == [117, 110, 105, 111, 110])
  case true =>
    have HF := Lib.hid (word_yes e4 rfl)
    go_enter Try.func66, Try.ntmps66
    go_wp2
    go_ret
    exact ⟨by rw [HF.out]; rfl, rfl⟩
  cases e5 : (s.toList == [100, 105, 115, 116, 105, 110, 99, 116])
  case true =>
    have HF := Lib.hid (word_yes e5 rfl)
    go_enter Try.func66, Try.ntmps66
    go_wp2
    go_ret
    exact ⟨by rw [HF.out]; rfl, rfl⟩
  cases e6 : (s.toList == [103, 114, 111, 117, 112])
  case true =>
    have HF := Lib.hid (word_yes e6 rfl)
    go_enter Try.func66, Try.ntmps66
    go_wp2
    go_ret
    exact ⟨by rw [HF.out]; rfl, rfl⟩
  cases e7 : (s.toList == [99, 111, 117, 110, 116])
  case true =>
    have HF := Lib.hid (word_yes e7 rfl)
    go_enter Try.func66, Try.ntmps66
    go_wp2
    go_ret
    exact ⟨by rw [HF.out]; rfl, rfl⟩
  cases e8 : (s.toList == [115, 117, 109])
  case true =>
    have HF := Lib.hid (word_yes e8 rfl)
    go_enter Try.func66, Try.ntmps66
    go_wp2
    go_ret
    exact ⟨by rw [HF.out]; rfl, rfl⟩
  cases e9 : (s.toList == [109, 105, 110])
  case true =>
    have HF := Lib.hid (word_yes e9 rfl)
    go_enter Try.func66, Try.ntmps66
    go_wp2
    go_ret
    exact ⟨by rw [HF.out]; rfl, rfl⟩
  cases e10 : (s.toList == [109, 97, 120])
  case true =>
    have HF := Lib.hid (word_yes e10 rfl)
    go_enter Try.func66, Try.ntmps66
    go_wp2
    go_ret
    exact ⟨by rw [HF.out]; rfl, rfl⟩
  cases e11 : (s.toList == [97, 100, 100])
  case true =>
    have HF := Lib.hid (word_yes e11 rfl)
    go_enter Try.func66, Try.ntmps66
    go_wp2
    go_ret
    exact ⟨by rw [HF.out]; rfl, rfl⟩
  cases e12 : (s.toList == [115, 117, 98])
  case true =>
    have HF := Lib.hid (word_yes e12 rfl)
    go_enter Try.func66, Try.ntmps66
    go_wp2
    go_ret
    exact ⟨by rw [HF.out]; rfl, rfl⟩
  cases e13 : (s.toList == [109, 117, 108])
  case true =>
    have HF := Lib.hid (word_yes e13 rfl)
    go_enter Try.func66, Try.ntmps66
    go_wp2
    go_ret
    exact ⟨by rw [HF.out]; rfl, rfl⟩
  cases e14 : (s.toList == [110, 101, 103])
  case true =>
    have HF := Lib.hid (word_yes e14 rfl)
    go_enter Try.func66, Try.ntmps66
    go_wp2
    go_ret
    exact ⟨by rw [HF.out]; rfl, rfl⟩
  cases e15 : (s.toList == [101, 113])
  case true =>
    have HF := Lib.hid (word_yes e15 rfl)
    go_enter Try.func66, Try.ntmps66
    go_wp2
    go_ret
    exact ⟨by rw [HF.out]; rfl, rfl⟩
  cases e16 : (s.toList == [108, 116])
  case true =>
    have HF := Lib.hid (word_yes e16 rfl)
    go_enter Try.func66, Try.ntmps66
    go_wp2
    go_ret
    exact ⟨by rw [HF.out]; rfl, rfl⟩
  cases e17 : (s.toList == [97, 110, 100])
  case true =>
    have HF := Lib.hid (word_yes e17 rfl)
    go_enter Try.func66, Try.ntmps66
    go_wp2
    go_ret
    exact ⟨by rw [HF.out]; rfl, rfl⟩
  cases e18 : (s.toList == [111, 114])
  case true =>
    have HF := Lib.hid (word_yes e18 rfl)
    go_enter Try.func66, Try.ntmps66
    go_wp2
    go_ret
    exact ⟨by rw [HF.out]; rfl, rfl⟩
  cases e19 : (s.toList == [110, 111, 116])
  case true =>
    have HF := Lib.hid (word_yes e19 rfl)
    go_enter Try.func66, Try.ntmps66
    go_wp2
    go_ret
    exact ⟨by rw [HF.out]; rfl, rfl⟩
  cases e20 : (s.toList == [99, 97, 116])
  case true =>
    have HF := Lib.hid (word_yes e20 rfl)
    go_enter Try.func66, Try.ntmps66
    go_wp2
    go_ret
    exact ⟨by rw [HF.out]; rfl, rfl⟩
  cases e21 : (s.toList == [108, 101, 110])
  case true =>
    have HF := Lib.hid (word_yes e21 rfl)
    go_enter Try.func66, Try.ntmps66
    go_wp2
    go_ret
    exact ⟨by rw [HF.out]; rfl, rfl⟩
  cases e22 : (s.toList == [105, 102])
  case true =>
    have HF := Lib.hid (word_yes e22 rfl)
    go_enter Try.func66, Try.ntmps66
    go_wp2
    go_ret
    exact ⟨by rw [HF.out]; rfl, rfl⟩
  have HF : Hid (words.contains s.toList = false) := Lib.hid (by simp only [words, List.contains_cons, List.contains_nil, e0, e1, e2, e3, e4, e5, e6, e7, e8, e9, e10, e11, e12, e13, e14, e15, e16, e17, e18, e19, e20, e21, e22, Bool.or_false])
  go_enter Try.func66, Try.ntmps66
  go_wp2
  go_ret
  exact ⟨by rw [HF.out]; rfl, rfl⟩

theorem letters_take {l : List UInt8} {k : Nat} {c : UInt8} (hk : k < l.length) (hc : l.getD k 0 = c) : (l.take (k + 1)).all letterB = ((l.take k).all letterB && letterB c) := by
  rw [List.take_succ_eq_append_getElem hk, List.all_append]
  simp [List.getD, hk] at hc
  simp [hc]
theorem letters_not {l : List UInt8} {k : Nat} {c : UInt8} (hk : k < l.length) (hc : l.getD k 0 = c) (h : letterB c = false) : l.all letterB = false := by
  rw [List.all_eq_false]
  simp [List.getD, hk] at hc
  exact ⟨c, hc ▸ List.getElem_mem hk, by simp [h]⟩
theorem nameV_long {s : ByteArray} (h : ¬ (1 ≤ s.size ∧ s.size ≤ 12)) : nameV s = false := by
  unfold nameV
  by_cases h1 : 1 ≤ s.size
  · rw [decide_eq_false (p := s.size ≤ 12) (fun h2 => h ⟨h1, h2⟩)]; simp
  · rw [decide_eq_false h1]; rfl
theorem nameV_in {s : ByteArray} (h1 : 1 ≤ s.size) (h2 : s.size ≤ 12) : nameV s = (s.data.toList.all letterB && !words.contains s.data.toList) := by
  unfold nameV
  rw [decide_eq_true h1, decide_eq_true h2]; rfl

set_option maxRecDepth 100000 in
set_option maxHeartbeats 4000000 in
theorem row_name (s : ByteArray) (w : World) :
    Calls Try.prog 46 #[.string s] w fun e w' => e = .returned (.bool (nameV s)) ∧ Ev w w' := by
  by_cases h1 : 1 ≤ s.size
  · by_cases h2 : s.size ≤ 12
    · rw [nameV_in h1 h2]
      have HW := Lib.hid (fun w1 => row_isWord s w1)
      generalize words.contains s.data.toList = wd at *
      obtain ⟨al, hal⟩ : ∃ al, s.data.toList.all letterB = al := ⟨_, rfl⟩
      rw [hal]
      have HAL := Lib.hid hal
      clear hal
      have i1 : ¬ (s.size : Int) < 1 := by omega
      have i2 : ¬ (12 : Int) < (s.size : Int) := by omega
      have hcv := Lib.run_convert_string_bytes (P := Try.prog) w 9 101 5 s Try.underlying9 Try.underlying101 Try.underlying5
      go_enter Try.func46, Try.ntmps46
      go_wp2
      obtain ⟨g, hg⟩ : ∃ g, g = w.heap.size := ⟨_, rfl⟩
      obtain ⟨cap, hcap⟩ : ∃ cap, cap = grownCap w s.size 0 5 := ⟨_, rfl⟩
      obtain ⟨n, hn⟩ : ∃ n, n = s.size := ⟨_, rfl⟩
      have hle : n ≤ cap := by rw [hn, hcap]; exact grownCap_ge _ _ _ _
      have hmx : cap ≤ maxLen := by rw [hcap]; exact grownCap_le_maxLen _ _ _ _ (by unfold maxLen; omega)
      have hll : s.data.toList.length = n := by rw [hn, Array.length_toList]; rfl
      have hEc : Ev w (Lib.bytesWorld w 5 s) := Lib.bytesWorld_below w 5 s
      have hcell : ∀ i, i < n → (Lib.bytesWorld w 5 s).cell? ⟨g, i, none⟩ = some (.int .u8 ((s.data.toList.getD i 0).toNat : Int)) := fun i hi => by rw [hg]; exact Lib.bytesWorld_cell w 5 s i (by omega)
      rw [← hg, ← hcap, ← hn]
      generalize Lib.bytesWorld w 5 s = w2 at *
      have HL := Lib.hid hll
      have HN := Lib.hid hn
      unfold maxLen at hmx
      rw [← hn] at i1 i2
      clear hcv hg hcap hll hn h1 h2
      go_loop [16] (fun i => ∃ k : Nat, k ≤ n ∧ i = .int .i64 (k : Int) ∧ Hid ((s.data.toList.take k).all letterB = true)) (fun i => n - (intOf i).toNat)
      case atStart => exact ⟨0, Nat.zero_le _, rfl, Lib.hid rfl⟩
      case round =>
        obtain ⟨k, hk, rfl, HT⟩ := hrel
        by_cases hlt : k < n
        · have hc := hcell k hlt
          obtain ⟨x, hx⟩ : ∃ x, s.data.toList.getD k 0 = x := ⟨_, rfl⟩
          rw [hx] at hc
          have HX := Lib.hid hx
          clear hx hcell
          by_cases l1 : 97 ≤ x.toNat
          · have j1 : ¬ ((x.toNat : Int) < 97) := by omega
            by_cases l2 : x.toNat ≤ 122
            · have j2 : ¬ ((122 : Int) < (x.toNat : Int)) := by omega
              have HF : Hid ((s.data.toList.take (k + 1)).all letterB = true) := Lib.hid (by rw [letters_take (by rw [HL.out]; exact hlt) HX.out, HT.out]; unfold letterB; rw [decide_eq_true l1, decide_eq_true l2]; rfl)
              clear l1 l2
              go_wp2
              go_round
              case rel => exact ⟨k + 1, by omega, by go_num, HF⟩
              case measure => simp [intOf]; omega
            · have j2 : (122 : Int) < (x.toNat : Int) := by omega
              have HF : Hid (s.data.toList.all letterB = false) := Lib.hid (letters_not (by rw [HL.out]; exact hlt) HX.out (by unfold letterB; rw [decide_eq_false l2]; simp))
              clear l1 l2
              go_wp2
              go_ret
              exact ⟨by rw [← HAL.out, HF.out]; rfl, hEc⟩
          · have j1 : (x.toNat : Int) < 97 := by omega
            have HF : Hid (s.data.toList.all letterB = false) := Lib.hid (letters_not (by rw [HL.out]; exact hlt) HX.out (by unfold letterB; rw [decide_eq_false l1]; rfl))
            clear l1
            go_wp2
            go_ret
            exact ⟨by rw [← HAL.out, HF.out]; rfl, hEc⟩
        · obtain rfl : k = n := by omega
          have HF : Hid (s.data.toList.all letterB = true) := Lib.hid (by
            have := HT.out
            rwa [List.take_of_length_le (by rw [HL.out]; exact Nat.le_refl _)] at this)
          go_wp2_with (first | ((with_reducible refine (HW.out _).mono ?_); rintro y w3 ⟨rfl, rfl⟩))
          go_ret
          exact ⟨by rw [← HAL.out, HF.out]; rfl, hEc⟩
    · rw [nameV_long (fun h => h2 h.2)]
      have i1 : ¬ (s.size : Int) < 1 := by omega
      have i2 : (12 : Int) < (s.size : Int) := by omega
      go_enter Try.func46, Try.ntmps46
      go_wp2
      go_ret
      exact ⟨rfl, Ev.refl _⟩
  · rw [nameV_long (fun h => h1 h.1)]
    have i1 : (s.size : Int) < 1 := by omega
    go_enter Try.func46, Try.ntmps46
    go_wp2
    go_ret
    exact ⟨rfl, Ev.refl _⟩

set_option maxRecDepth 100000 in
set_option maxHeartbeats 4000000 in
theorem row_find {A : Option Addr} {n cap : Nat} {l : List C} (s : ByteArray) (w : World) (h : Cs w A n cap l) :
    Calls Try.prog 49 #[.slice A n cap, .string s] w fun e w' => e = .returned (.tuple #[.int .i64 (foundAt (findC l s)), .bool (findC l s).isSome]) ∧ Ev w w' := by
  have hn := h.le
  have hm := h.max
  have HN := Lib.hid h.len
  go_enter Try.func49, Try.ntmps49
  go_wp2
  go_loopw [10] (fun i wr => ∃ k : Nat, k ≤ n ∧ i = .int .i64 k ∧ Hid (∀ i c, i < k → l[i]? = some c → named s c = false) ∧ Ev w wr) (fun i _ => n - (intOf i).toNat)
  case atStart => exact ⟨0, Nat.zero_le _, rfl, Lib.hid (fun i c hi => by omega), Ev.refl _⟩
  case round =>
    obtain ⟨k, hk, rfl, HT, hE⟩ := hrel
    by_cases hlt : k < n
    · obtain ⟨b, off, ⟨xs, xk⟩, rfl, hb, hx, c0, c1⟩ := (h.ev hE).ccell hlt
      have HX := Lib.hid hx
      clear hx
      simp only at c0 c1
      cases ht : (xs.toList == s.toList)
      · have HF : Hid (∀ i c, i < k + 1 → l[i]? = some c → named s c = false) := Lib.hid (fun i c hi hc => by
          by_cases hik : i < k
          · exact HT.out i c hik hc
          · obtain rfl : i = k := by omega
            rw [HX.out] at hc
            obtain rfl := Option.some.inj hc
            exact ht)
        go_wp2
        go_roundw
        case rel => exact ⟨k + 1, by omega, by go_num, HF, hE.trans (Ev.alloc _ _)⟩
        case measure => simp [intOf]; omega
      · have HF := Lib.hid (findC_some HT.out HX.out ht)
        go_wp2
        go_ret2
        exact ⟨by rw [HF.out]; rfl, hE.trans (Ev.alloc _ _)⟩
    · obtain rfl : k = n := by omega
      have HF : Hid (findC l s = none) := Lib.hid (findC_none fun i c hi hc => HT.out i c (by rw [HN.out] at hi; exact hi) hc)
      go_wp2
      go_ret2
      exact ⟨by rw [HF.out]; rfl, hE⟩
end Go.Proofs.Ytgiofdmedhhobaa

namespace Go.Proofs.Ytgiofdmedhhobaa
open Go.RowKit
set_option linter.unusedVariables false

theorem getD_at5 (s : ByteArray) (k : Nat) (h : k < s.size) : s[k] = s.data.toList.getD k 0 := by
  obtain ⟨⟨l⟩⟩ := s
  have hk : k < l.length := h
  simp [List.getD, hk]
  rfl
theorem word_cells (k : Nat) (hk : k < 23) : (#[.string ⟨#[116, 97, 98, 108, 101]⟩, .string ⟨#[102, 105, 108, 116, 101, 114]⟩, .string ⟨#[112, 114, 111, 106, 101, 99, 116]⟩, .string ⟨#[106, 111, 105, 110]⟩, .string ⟨#[117, 110, 105, 111, 110]⟩, .string ⟨#[100, 105, 115, 116, 105, 110, 99, 116]⟩, .string ⟨#[103, 114, 111, 117, 112]⟩, .string ⟨#[99, 111, 117, 110, 116]⟩, .string ⟨#[115, 117, 109]⟩, .string ⟨#[109, 105, 110]⟩, .string ⟨#[109, 97, 120]⟩, .string ⟨#[97, 100, 100]⟩, .string ⟨#[115, 117, 98]⟩, .string ⟨#[109, 117, 108]⟩, .string ⟨#[110, 101, 103]⟩, .string ⟨#[101, 113]⟩, .string ⟨#[108, 116]⟩, .string ⟨#[97, 110, 100]⟩, .string ⟨#[111, 114]⟩, .string ⟨#[110, 111, 116]⟩, .string ⟨#[99, 97, 116]⟩, .string ⟨#[108, 101, 110]⟩, .string ⟨#[105, 102]⟩] : Array Value)[k]? = some (.string ⟨(words.getD k []).toArray⟩) := by
  have e : (#[.string ⟨#[116, 97, 98, 108, 101]⟩, .string ⟨#[102, 105, 108, 116, 101, 114]⟩, .string ⟨#[112, 114, 111, 106, 101, 99, 116]⟩, .string ⟨#[106, 111, 105, 110]⟩, .string ⟨#[117, 110, 105, 111, 110]⟩, .string ⟨#[100, 105, 115, 116, 105, 110, 99, 116]⟩, .string ⟨#[103, 114, 111, 117, 112]⟩, .string ⟨#[99, 111, 117, 110, 116]⟩, .string ⟨#[115, 117, 109]⟩, .string ⟨#[109, 105, 110]⟩, .string ⟨#[109, 97, 120]⟩, .string ⟨#[97, 100, 100]⟩, .string ⟨#[115, 117, 98]⟩, .string ⟨#[109, 117, 108]⟩, .string ⟨#[110, 101, 103]⟩, .string ⟨#[101, 113]⟩, .string ⟨#[108, 116]⟩, .string ⟨#[97, 110, 100]⟩, .string ⟨#[111, 114]⟩, .string ⟨#[110, 111, 116]⟩, .string ⟨#[99, 97, 116]⟩, .string ⟨#[108, 101, 110]⟩, .string ⟨#[105, 102]⟩] : Array Value) = (words.map fun l => Value.string ⟨l.toArray⟩).toArray := rfl
  have hl : k < words.length := hk
  rw [e, List.getElem?_toArray, List.getElem?_map, List.getElem?_eq_getElem hl, List.getD, List.getElem?_eq_getElem hl]
  rfl
theorem word_in {k : Nat} (hk : k < 23) {x : List UInt8} (h : words.getD k [] = x) : words.contains x = true := by
  have hl : k < words.length := hk
  rw [List.contains_iff_mem, ← h, List.getD, List.getElem?_eq_getElem hl]
  exact List.getElem_mem hl
theorem word_out {x : List UInt8} (h : ∀ i, i < 23 → words.getD i [] ≠ x) : words.contains x = false := by
  cases hc : words.contains x
  · rfl
  · rw [List.contains_iff_mem] at hc
    obtain ⟨i, hi, e⟩ := List.getElem_of_mem hc
    exact absurd (by rw [List.getD, List.getElem?_eq_getElem hi]; exact e) (h i hi)

set_option maxRecDepth 100000 in
set_option maxHeartbeats 4000000 in
theorem ref5_name (s : ByteArray) (w : World) (hs : s.size ≤ maxLen) :
    Calls Try.prog 28 #[.string s] w fun e w' => e = .returned (.bool (nameV s)) ∧ Ev w w' := by
  unfold maxLen at hs
  have hll : s.data.toList.length = s.size := by rw [Array.length_toList]; rfl
  obtain ⟨w0, hw0⟩ : ∃ w0, w0 = w.alloc (.cells #[.string ⟨#[116, 97, 98, 108, 101]⟩, .string ⟨#[102, 105, 108, 116, 101, 114]⟩, .string ⟨#[112, 114, 111, 106, 101, 99, 116]⟩, .string ⟨#[106, 111, 105, 110]⟩, .string ⟨#[117, 110, 105, 111, 110]⟩, .string ⟨#[100, 105, 115, 116, 105, 110, 99, 116]⟩, .string ⟨#[103, 114, 111, 117, 112]⟩, .string ⟨#[99, 111, 117, 110, 116]⟩, .string ⟨#[115, 117, 109]⟩, .string ⟨#[109, 105, 110]⟩, .string ⟨#[109, 97, 120]⟩, .string ⟨#[97, 100, 100]⟩, .string ⟨#[115, 117, 98]⟩, .string ⟨#[109, 117, 108]⟩, .string ⟨#[110, 101, 103]⟩, .string ⟨#[101, 113]⟩, .string ⟨#[108, 116]⟩, .string ⟨#[97, 110, 100]⟩, .string ⟨#[111, 114]⟩, .string ⟨#[110, 111, 116]⟩, .string ⟨#[99, 97, 116]⟩, .string ⟨#[108, 101, 110]⟩, .string ⟨#[105, 102]⟩] 9) := ⟨_, rfl⟩
  have hE0 : Ev w w0 := hw0 ▸ Ev.alloc w _
  obtain ⟨g, hg⟩ : ∃ g, g = w.heap.size := ⟨_, rfl⟩
  have hcell : ∀ k, k < 23 → ∃ X : ByteArray, X.toList = words.getD k [] ∧ w0.cell? ⟨g, k, none⟩ = some (.string X) := fun k hk => by
    refine ⟨⟨(words.getD k []).toArray⟩, by simp, ?_⟩
    rw [hw0, hg, Lib.cell_of_heap (heap_alloc_new w _)]
    exact word_cells k hk
  have HL := Lib.hid hll
  clear hll
  go_enter Try.func28, Try.ntmps28
  go_wp2
  rw [← hw0, ← hg]
  clear hw0 hg
  go_loop [4] (fun i => ∃ k : Nat, k ≤ 23 ∧ i = .int .i64 (k : Int) ∧ Hid (∀ i, i < k → words.getD i [] ≠ s.data.toList)) (fun i => 23 - (intOf i).toNat)
  case atStart => exact ⟨0, Nat.zero_le _, rfl, Lib.hid (fun i hi => by omega)⟩
  case round =>
    obtain ⟨k, hk, rfl, HT⟩ := hrel
    by_cases hlt : k < 23
    · obtain ⟨X, hX, hc⟩ := hcell k hlt
      clear hcell
      cases ht : (X.toList == s.toList)
      · have HF : Hid (∀ i, i < k + 1 → words.getD i [] ≠ s.data.toList) := Lib.hid (fun i hi => by
          by_cases hik : i < k
          · exact HT.out i hik
          · obtain rfl : i = k := by omega
            rw [← hX, ← tl]
            exact beq_eq_false_iff_ne.1 ht)
        clear hX
        go_wp2
        go_round
        case rel => exact ⟨k + 1, by omega, by go_num, HF⟩
        case measure => simp [intOf]; omega
      · have HF : Hid (nameV s = false) := Lib.hid (by
          have h1 : words.contains s.data.toList = true := word_in hlt (by rw [← hX, ← tl]; exact beq_iff_eq.1 ht)
          unfold nameV
          rw [h1]
          simp)
        clear hX
        go_wp2
        go_ret
        exact ⟨by rw [HF.out]; rfl, hE0⟩
    · obtain rfl : k = 23 := by omega
      have HW : Hid (words.contains s.data.toList = false) := Lib.hid (word_out HT.out)
      clear hcell HT
      go_wp2
      go_loop [5] (fun i => ∃ k : Nat, k ≤ s.size ∧ i = .int .i64 (k : Int) ∧ Hid ((s.data.toList.take k).all letterB = true)) (fun i => s.size - (intOf i).toNat)
      case atStart => exact ⟨0, Nat.zero_le _, rfl, Lib.hid rfl⟩
      case round =>
        obtain ⟨k, hk, rfl, HT⟩ := hrel
        by_cases hlt : k < s.size
        · obtain ⟨c, hc⟩ : ∃ c, s[k] = c := ⟨_, rfl⟩
          have hidx : ∀ hh, s[k]'hh = c := fun _ => hc
          have HX := Lib.hid ((getD_at5 s k hlt).symm.trans hc)
          clear hc
          by_cases l1 : 97 ≤ c.toNat
          · have j1 : ¬ ((c.toNat : Int) < 97) := by omega
            by_cases l2 : c.toNat ≤ 122
            · have j2 : ¬ ((122 : Int) < (c.toNat : Int)) := by omega
              have HF : Hid ((s.data.toList.take (k + 1)).all letterB = true) := Lib.hid (by rw [letters_take (by rw [HL.out]; exact hlt) HX.out, HT.out]; unfold letterB; rw [decide_eq_true l1, decide_eq_true l2]; rfl)
              clear l1 l2
              go_wp2
              go_round
              case rel => exact ⟨k + 1, by omega, by go_num, HF⟩
              case measure => simp [intOf]; omega
            · have j2 : (122 : Int) < (c.toNat : Int) := by omega
              have HF : Hid (nameV s = false) := Lib.hid (by
                have h1 := letters_not (by rw [HL.out]; exact hlt) HX.out (show letterB c = false by unfold letterB; rw [decide_eq_false l2]; simp)
                unfold nameV
                rw [h1]
                simp)
              clear l1 l2
              go_wp2
              go_ret
              exact ⟨by rw [HF.out]; rfl, hE0⟩
          · have j1 : (c.toNat : Int) < 97 := by omega
            have HF : Hid (nameV s = false) := Lib.hid (by
              have h1 := letters_not (by rw [HL.out]; exact hlt) HX.out (show letterB c = false by unfold letterB; rw [decide_eq_false l1]; rfl)
              unfold nameV
              rw [h1]
              simp)
            clear l1
            go_wp2
            go_ret
            exact ⟨by rw [HF.out]; rfl, hE0⟩
        · obtain rfl : k = s.size := by omega
          have HF : Hid (nameV s = (decide (1 ≤ s.size) && decide (s.size ≤ 12))) := Lib.hid (by
            have := HT.out
            rw [List.take_of_length_le (by rw [HL.out]; exact Nat.le_refl _)] at this
            unfold nameV
            rw [this, HW.out]
            simp)
          by_cases h1 : 1 ≤ s.size
          · have i1 : (1 : Int) ≤ (s.size : Int) := by omega
            have e : (decide (1 ≤ s.size) && decide (s.size ≤ 12)) = decide ((s.size : Int) ≤ 12) := by rw [decide_eq_true h1, Bool.true_and]; exact decide_eq_decide.2 (by omega)
            have HF2 := Lib.hid (HF.out.trans e)
            clear e HF
            go_wp2
            go_ret
            exact ⟨by rw [HF2.out]; rfl, hE0⟩
          · have i1 : ¬ (1 : Int) ≤ (s.size : Int) := by omega
            have HF2 : Hid (nameV s = false) := Lib.hid (by rw [HF.out, decide_eq_false h1]; rfl)
            clear HF
            go_wp2
            go_ret
            exact ⟨by rw [HF2.out]; rfl, hE0⟩

set_option maxRecDepth 100000 in
set_option maxHeartbeats 4000000 in
theorem ref5_find {A : Option Addr} {n cap : Nat} {l : List C} (s : ByteArray) (w : World) (h : Cs w A n cap l) :
    Calls Try.prog 51 #[.slice A n cap, .string s] w fun e w' => e = .returned (.tuple #[.int .i64 (foundAt (findC l s)), .bool (findC l s).isSome]) ∧ Ev w w' := by
  have hn := h.le
  have hm := h.max
  have HN := Lib.hid h.len
  go_enter Try.func51, Try.ntmps51
  go_wp2
  go_loop [6] (fun i => ∃ k : Nat, k ≤ n ∧ i = .int .i64 k ∧ Hid (∀ i c, i < k → l[i]? = some c → named s c = false)) (fun i => n - (intOf i).toNat)
  case atStart => exact ⟨0, Nat.zero_le _, rfl, Lib.hid (fun i c hi => by omega)⟩
  case round =>
    obtain ⟨k, hk, rfl, HT⟩ := hrel
    by_cases hlt : k < n
    · obtain ⟨b, off, ⟨xs, xk⟩, rfl, hb, hx, c0, c1⟩ := h.ccell hlt
      have HX := Lib.hid hx
      clear hx
      simp only at c0 c1
      cases ht : (xs.toList == s.toList)
      · have HF : Hid (∀ i c, i < k + 1 → l[i]? = some c → named s c = false) := Lib.hid (fun i c hi hc => by
          by_cases hik : i < k
          · exact HT.out i c hik hc
          · obtain rfl : i = k := by omega
            rw [HX.out] at hc
            obtain rfl := Option.some.inj hc
            exact ht)
        go_wp2
        go_round
        case rel => exact ⟨k + 1, by omega, by go_num, HF⟩
        case measure => simp [intOf]; omega
      · have HF := Lib.hid (findC_some HT.out HX.out ht)
        go_wp2
        go_ret2
        exact ⟨by rw [HF.out]; rfl, Ev.refl _⟩
    · obtain rfl : k = n := by omega
      have HF : Hid (findC l s = none) := Lib.hid (findC_none fun i c hi hc => HT.out i c (by rw [HN.out] at hi; exact hi) hc)
      go_wp2
      go_ret2
      exact ⟨by rw [HF.out]; rfl, Ev.refl _⟩

end Go.Proofs.Ytgiofdmedhhobaa

namespace Go.Proofs.Ytgiofdmedhhobaa
open Go.RowKit
set_option linter.unusedVariables false

set_option maxRecDepth 100000 in
set_option maxHeartbeats 4000000 in
theorem ref5_fits {A B : Option Addr} {n m cap cap' : Nat} {l : List C} {r : List V} (w : World) (h : Cs w A n cap l) (h' : Vs w B m cap' r) :
    Calls Try.prog 36 #[.slice A n cap, .slice B m cap'] w fun e w' => e = .returned (.bool (fitsL l r)) ∧ Ev w w' := by
  have hn := h.le
  have hm := h.max
  have hn' := h'.le
  have hm' := h'.max
  have HL := Lib.hid h.len
  have HM := Lib.hid h'.len
  have hmix : Try.prog.follows .mixedOrders = true := by kernel_rfl
  by_cases hnm : n = m
  · subst hnm
    go_enter Try.func36, Try.ntmps36
    go_wp2
    go_loopw [5] (fun i wr => ∃ k : Nat, k ≤ n ∧ i = .int .i64 k ∧ Hid (fitsL (l.take k) (r.take k) = true) ∧ Ev w wr) (fun i _ => n - (intOf i).toNat)
    case atStart => exact ⟨0, Nat.zero_le _, rfl, Lib.hid (by simp [fitsL]), Ev.refl _⟩
    case round =>
      obtain ⟨k, hk, rfl, HT, hE⟩ := hrel
      by_cases hlt : k < n
      · obtain ⟨b2, off', ⟨xs, ck⟩, rfl, hb2, hy, d0, d1⟩ := (h.ev hE).ccell hlt
        obtain ⟨b1, off, ⟨vk, vn, vs⟩, rfl, hb1, hx, c0, c1, c2⟩ := (h'.ev hE).vcell hlt
        simp only at c0 c1 c2 d0 d1
        have i1 : (0 : Int) ≤ (k : Int) := by omega
        have i2 : (k : Int) < (n : Int) := by omega
        have HX := Lib.hid hx
        have HY := Lib.hid hy
        have HV := fun w1 => refr_right vk vn vs w1
        obtain ⟨rr, hrr⟩ : ∃ rr, rightV vk vn vs = rr := ⟨_, rfl⟩
        rw [hrr] at HV
        clear hx hy h h'
        cases rr
        · have HF : Hid (fitsL l r = false) := Lib.hid (fitsL_not k l r _ _ HY.out HX.out (.inl hrr))
          clear hrr
          go_wp2_with fail
          refine wp_region_slots hmix [fun v _ => v = .slice (some ⟨b1, off, none⟩) n cap', fun v _ => v = .int .i64 (k : Int), fun v _ => v = .pointer (some ⟨b1, off + k * 3, none⟩), fun v _ => v = vv vk vn vs, fun v _ => v = .bool false, fun v _ => v = .bool true, fun v _ => v = .bool true, fun _ _ => True, fun _ _ => True, fun _ _ => True, fun _ _ => True, fun _ _ => True, fun _ _ => True, fun _ _ => True, fun _ _ => True, fun _ _ => True, fun _ _ => True, fun _ _ => True, fun v _ => v = .bool true]
            36 rfl (by kernel_rfl) ⟨mono_eq _, mono_eq _, mono_eq _, mono_eq _, mono_eq _, mono_eq _, mono_eq _, mono_true, mono_true, mono_true, mono_true, mono_true, mono_true, mono_true, mono_true, mono_true, mono_true, mono_true, mono_eq _, trivial⟩ ?_ ?_
          · refine ops_cons 0 ?_ (ops_cons 1 ?_ (ops_cons 2 ?_ (ops_cons 3 ?_ (ops_cons 4 ?_ (ops_cons 5 ?_ (ops_cons 6 ?_ (ops_cons 7 ?_ (ops_cons 8 ?_ (ops_cons 9 ?_ (ops_cons 10 ?_ (ops_cons 11 ?_ (ops_cons 12 ?_ (ops_cons 13 ?_ (ops_cons 14 ?_ (ops_cons 15 ?_ (ops_cons 16 ?_ (ops_cons 17 ?_ (ops_cons 18 ?_ (ops_nil 19)))))))))))))))))))
            · refine op_value fun a w c => ⟨(wanted_plain rfl), _, run_move _ rfl w, (c.was 1 (by kernel_rfl) rfl)⟩
            · refine op_value fun a w c => ⟨(wanted_plain rfl), _, run_move _ rfl w, (c.was 5 (by kernel_rfl) rfl)⟩
            · refine op_value fun a w c => ⟨(wanted_plain rfl), .pointer (some ⟨b1, off + k * 3, none⟩), ?_, rfl⟩
              have e17 : a.eval (.tmp 17) = .slice (some ⟨b1, off, none⟩) n cap' := (c.new 0 17 (by kernel_rfl) (by kernel_rfl))
              have e18 : a.eval (.tmp 18) = .int .i64 (k : Int) := (c.new 1 18 (by kernel_rfl) (by kernel_rfl))
              generalize a.eval = ρ at e17 e18 ⊢
              simp [execOp, e17, e18, go_sem, i1, i2]
            · refine op_value fun a w c => ⟨(wanted_plain rfl), _, run_load_elem rfl ((c.new 2 19 (by kernel_rfl) (by kernel_rfl)) : a.eval (.tmp 19) = .pointer (some ⟨b1, off + k * 3, none⟩)) ((c.ev.cell (p := ⟨_, _, none⟩) hb1).trans c0) ((c.ev.cell (p := ⟨_, _, none⟩) hb1).trans c1) ((c.ev.cell (p := ⟨_, _, none⟩) hb1).trans c2), rfl⟩
            · refine op_call fun a w c => ⟨(wanted_plain rfl), 57, #[vv vk vn vs], ?_, ?_⟩
              · rw [run_call 57 _ _ rfl (by kernel_rfl)]
                have e20 : a.eval (.tmp 20) = vv vk vn vs := (c.new 3 20 (by kernel_rfl) (by kernel_rfl))
                simp [e20]
              · refine (HV w).mono ?_
                rintro e w2 ⟨rfl, hE⟩
                exact ⟨_, rfl, hE, rfl⟩
            · refine op_value fun a w c => ⟨(wanted_plain rfl), .bool true, ?_, rfl⟩
              have e21 : a.eval (.tmp 21) = .bool false := (c.new 4 21 (by kernel_rfl) (by kernel_rfl))
              generalize a.eval = ρ at e21 ⊢
              simp [execOp, e21, go_sem]
            · refine op_value fun a w c => ⟨(wanted_plain rfl), _, run_move _ rfl w, (c.new 5 22 (by kernel_rfl) (by kernel_rfl))⟩
            · refine op_skip fun a w c => ⟨(wanted_no rfl (by kernel_rfl) (c.new 6 23 (by kernel_rfl) (by kernel_rfl)) (by decide)), trivial⟩
            · refine op_skip fun a w c => ⟨(wanted_no rfl (by kernel_rfl) (c.new 6 23 (by kernel_rfl) (by kernel_rfl)) (by decide)), trivial⟩
            · refine op_skip fun a w c => ⟨(wanted_no rfl (by kernel_rfl) (c.new 6 23 (by kernel_rfl) (by kernel_rfl)) (by decide)), trivial⟩
            · refine op_skip fun a w c => ⟨(wanted_no rfl (by kernel_rfl) (c.new 6 23 (by kernel_rfl) (by kernel_rfl)) (by decide)), trivial⟩
            · refine op_skip fun a w c => ⟨(wanted_no rfl (by kernel_rfl) (c.new 6 23 (by kernel_rfl) (by kernel_rfl)) (by decide)), trivial⟩
            · refine op_skip fun a w c => ⟨(wanted_no rfl (by kernel_rfl) (c.new 6 23 (by kernel_rfl) (by kernel_rfl)) (by decide)), trivial⟩
            · refine op_skip fun a w c => ⟨(wanted_no rfl (by kernel_rfl) (c.new 6 23 (by kernel_rfl) (by kernel_rfl)) (by decide)), trivial⟩
            · refine op_skip fun a w c => ⟨(wanted_no rfl (by kernel_rfl) (c.new 6 23 (by kernel_rfl) (by kernel_rfl)) (by decide)), trivial⟩
            · refine op_skip fun a w c => ⟨(wanted_no rfl (by kernel_rfl) (c.new 6 23 (by kernel_rfl) (by kernel_rfl)) (by decide)), trivial⟩
            · refine op_skip fun a w c => ⟨(wanted_no rfl (by kernel_rfl) (c.new 6 23 (by kernel_rfl) (by kernel_rfl)) (by decide)), trivial⟩
            · refine op_skip fun a w c => ⟨(wanted_no rfl (by kernel_rfl) (c.new 6 23 (by kernel_rfl) (by kernel_rfl)) (by decide)), trivial⟩
            · refine op_value fun a w c => ⟨(wanted_plain rfl), _, run_pick_true rfl (c.new 6 23 (by kernel_rfl) (by kernel_rfl)) w, (evc a _)⟩
          intro s w4 hEr hold hnew
          have f0 : s 0 = .slice (some ⟨b2, off', none⟩) n cap := hold 0 (by kernel_rfl)
          have f1 : s 1 = .slice (some ⟨b1, off, none⟩) n cap' := hold 1 (by kernel_rfl)
          have f2 : s 2 = undef := hold 2 (by kernel_rfl)
          have f3 : s 3 = undef := hold 3 (by kernel_rfl)
          have f5 : s 5 = .int .i64 (k : Int) := hold 5 (by kernel_rfl)
          have f6 : s 6 = .slice (some ⟨b2, off', none⟩) n cap := hold 6 (by kernel_rfl)
          have f7 : s 7 = .int .i64 (n : Int) := hold 7 (by kernel_rfl)
          have f8 : s 8 = .slice (some ⟨b1, off, none⟩) n cap' := hold 8 (by kernel_rfl)
          have f9 : s 9 = .int .i64 (n : Int) := hold 9 (by kernel_rfl)
          have f10 : s 10 = .bool false := hold 10 (by kernel_rfl)
          have f17 : s 17 = .slice (some ⟨b1, off, none⟩) n cap' := hnew 0 17 (by kernel_rfl)
          have f18 : s 18 = .int .i64 (k : Int) := hnew 1 18 (by kernel_rfl)
          have f19 : s 19 = .pointer (some ⟨b1, off + k * 3, none⟩) := hnew 2 19 (by kernel_rfl)
          have f20 : s 20 = vv vk vn vs := hnew 3 20 (by kernel_rfl)
          have f21 : s 21 = .bool false := hnew 4 21 (by kernel_rfl)
          have f22 : s 22 = .bool true := hnew 5 22 (by kernel_rfl)
          have f23 : s 23 = .bool true := hnew 6 23 (by kernel_rfl)
          have f35 : s 35 = .bool true := hnew 18 35 (by kernel_rfl)
          change Exit.then _ _ .normal ⟨#[s 0, s 1, s 2, s 3, s 4, s 5, s 6, s 7, s 8, s 9, s 10, s 11, s 12, s 13, s 14, s 15, s 16, s 17, s 18, s 19, s 20, s 21, s 22, s 23, s 24, s 25, s 26, s 27, s 28, s 29, s 30, s 31, s 32, s 33, s 34, s 35], _⟩ _
          simp only [f0, f1, f2, f3, f5, f6, f7, f8, f9, f10, f17, f18, f19, f20, f21, f22, f23, f35]
          clear hold hnew
          go_wp2
          go_ret
          exact ⟨by rw [HF.out]; rfl, hE.trans hEr⟩
        · by_cases hkk : vk = ck
          · subst hkk
            have HF := Lib.hid (fitsL_step k l r _ _ HT.out HY.out HX.out hrr rfl)
            clear hrr
            go_wp2_with fail
            refine wp_region_slots hmix [fun v _ => v = .slice (some ⟨b1, off, none⟩) n cap', fun v _ => v = .int .i64 (k : Int), fun v _ => v = .pointer (some ⟨b1, off + k * 3, none⟩), fun v _ => v = vv vk vn vs, fun v _ => v = .bool true, fun v _ => v = .bool false, fun v _ => v = .bool false, fun v _ => v = .slice (some ⟨b1, off, none⟩) n cap', fun v _ => v = .int .i64 (k : Int), fun v _ => v = .pointer (some ⟨b1, off + k * 3, none⟩), fun v _ => v = .pointer (some ⟨b1, off + k * 3, none⟩), fun v _ => v = .int .i64 vk, fun v _ => v = .slice (some ⟨b2, off', none⟩) n cap, fun v _ => v = .int .i64 (k : Int), fun v _ => v = .pointer (some ⟨b2, off' + k * 2, none⟩), fun v _ => v = .pointer (some ⟨b2, off' + k * 2 + 1, none⟩), fun v _ => v = .int .i64 vk, fun v _ => v = .bool false, fun v _ => v = .bool false]
              36 rfl (by kernel_rfl) ⟨mono_eq _, mono_eq _, mono_eq _, mono_eq _, mono_eq _, mono_eq _, mono_eq _, mono_eq _, mono_eq _, mono_eq _, mono_eq _, mono_eq _, mono_eq _, mono_eq _, mono_eq _, mono_eq _, mono_eq _, mono_eq _, mono_eq _, trivial⟩ ?_ ?_
            · refine ops_cons 0 ?_ (ops_cons 1 ?_ (ops_cons 2 ?_ (ops_cons 3 ?_ (ops_cons 4 ?_ (ops_cons 5 ?_ (ops_cons 6 ?_ (ops_cons 7 ?_ (ops_cons 8 ?_ (ops_cons 9 ?_ (ops_cons 10 ?_ (ops_cons 11 ?_ (ops_cons 12 ?_ (ops_cons 13 ?_ (ops_cons 14 ?_ (ops_cons 15 ?_ (ops_cons 16 ?_ (ops_cons 17 ?_ (ops_cons 18 ?_ (ops_nil 19)))))))))))))))))))
              · refine op_value fun a w c => ⟨(wanted_plain rfl), _, run_move _ rfl w, (c.was 1 (by kernel_rfl) rfl)⟩
              · refine op_value fun a w c => ⟨(wanted_plain rfl), _, run_move _ rfl w, (c.was 5 (by kernel_rfl) rfl)⟩
              · refine op_value fun a w c => ⟨(wanted_plain rfl), .pointer (some ⟨b1, off + k * 3, none⟩), ?_, rfl⟩
                have e17 : a.eval (.tmp 17) = .slice (some ⟨b1, off, none⟩) n cap' := (c.new 0 17 (by kernel_rfl) (by kernel_rfl))
                have e18 : a.eval (.tmp 18) = .int .i64 (k : Int) := (c.new 1 18 (by kernel_rfl) (by kernel_rfl))
                generalize a.eval = ρ at e17 e18 ⊢
                simp [execOp, e17, e18, go_sem, i1, i2]
              · refine op_value fun a w c => ⟨(wanted_plain rfl), _, run_load_elem rfl ((c.new 2 19 (by kernel_rfl) (by kernel_rfl)) : a.eval (.tmp 19) = .pointer (some ⟨b1, off + k * 3, none⟩)) ((c.ev.cell (p := ⟨_, _, none⟩) hb1).trans c0) ((c.ev.cell (p := ⟨_, _, none⟩) hb1).trans c1) ((c.ev.cell (p := ⟨_, _, none⟩) hb1).trans c2), rfl⟩
              · refine op_call fun a w c => ⟨(wanted_plain rfl), 57, #[vv vk vn vs], ?_, ?_⟩
                · rw [run_call 57 _ _ rfl (by kernel_rfl)]
                  have e20 : a.eval (.tmp 20) = vv vk vn vs := (c.new 3 20 (by kernel_rfl) (by kernel_rfl))
                  simp [e20]
                · refine (HV w).mono ?_
                  rintro e w2 ⟨rfl, hE⟩
                  exact ⟨_, rfl, hE, rfl⟩
              · refine op_value fun a w c => ⟨(wanted_plain rfl), .bool false, ?_, rfl⟩
                have e21 : a.eval (.tmp 21) = .bool true := (c.new 4 21 (by kernel_rfl) (by kernel_rfl))
                generalize a.eval = ρ at e21 ⊢
                simp [execOp, e21, go_sem]
              · refine op_value fun a w c => ⟨(wanted_plain rfl), _, run_move _ rfl w, (c.new 5 22 (by kernel_rfl) (by kernel_rfl))⟩
              · refine op_value fun a w c => ⟨(wanted_yes rfl (by kernel_rfl) (c.new 6 23 (by kernel_rfl) (by kernel_rfl))), _, run_move _ rfl w, (c.was 1 (by kernel_rfl) rfl)⟩
              · refine op_value fun a w c => ⟨(wanted_yes rfl (by kernel_rfl) (c.new 6 23 (by kernel_rfl) (by kernel_rfl))), _, run_move _ rfl w, (c.was 5 (by kernel_rfl) rfl)⟩
              · refine op_value fun a w c => ⟨(wanted_yes rfl (by kernel_rfl) (c.new 6 23 (by kernel_rfl) (by kernel_rfl))), .pointer (some ⟨b1, off + k * 3, none⟩), ?_, rfl⟩
                have e24 : a.eval (.tmp 24) = .slice (some ⟨b1, off, none⟩) n cap' := (c.new 7 24 (by kernel_rfl) (by kernel_rfl))
                have e25 : a.eval (.tmp 25) = .int .i64 (k : Int) := (c.new 8 25 (by kernel_rfl) (by kernel_rfl))
                generalize a.eval = ρ at e24 e25 ⊢
                simp [execOp, e24, e25, go_sem, i1, i2]
              · refine op_value fun a w c => ⟨(wanted_yes rfl (by kernel_rfl) (c.new 6 23 (by kernel_rfl) (by kernel_rfl))), .pointer (some ⟨b1, off + k * 3, none⟩), ?_, rfl⟩
                have e26 : a.eval (.tmp 26) = .pointer (some ⟨b1, off + k * 3, none⟩) := (c.new 9 26 (by kernel_rfl) (by kernel_rfl))
                generalize a.eval = ρ at e26 ⊢
                simp [execOp, e26, go_sem]
              · refine op_value fun a w c => ⟨(wanted_yes rfl (by kernel_rfl) (c.new 6 23 (by kernel_rfl) (by kernel_rfl))), .int .i64 vk, ?_, rfl⟩
                have e27 : a.eval (.tmp 27) = .pointer (some ⟨b1, off + k * 3, none⟩) := (c.new 10 27 (by kernel_rfl) (by kernel_rfl))
                have hc := (c.ev.cell (p := ⟨_, _, none⟩) hb1).trans c0
                generalize a.eval = ρ at e27 ⊢
                simp [execOp, e27, hc, go_sem]
              · refine op_value fun a w c => ⟨(wanted_yes rfl (by kernel_rfl) (c.new 6 23 (by kernel_rfl) (by kernel_rfl))), _, run_move _ rfl w, (c.was 0 (by kernel_rfl) rfl)⟩
              · refine op_value fun a w c => ⟨(wanted_yes rfl (by kernel_rfl) (c.new 6 23 (by kernel_rfl) (by kernel_rfl))), _, run_move _ rfl w, (c.was 5 (by kernel_rfl) rfl)⟩
              · refine op_value fun a w c => ⟨(wanted_yes rfl (by kernel_rfl) (c.new 6 23 (by kernel_rfl) (by kernel_rfl))), .pointer (some ⟨b2, off' + k * 2, none⟩), ?_, rfl⟩
                have e29 : a.eval (.tmp 29) = .slice (some ⟨b2, off', none⟩) n cap := (c.new 12 29 (by kernel_rfl) (by kernel_rfl))
                have e30 : a.eval (.tmp 30) = .int .i64 (k : Int) := (c.new 13 30 (by kernel_rfl) (by kernel_rfl))
                generalize a.eval = ρ at e29 e30 ⊢
                simp [execOp, e29, e30, go_sem, i1, i2]
              · refine op_value fun a w c => ⟨(wanted_yes rfl (by kernel_rfl) (c.new 6 23 (by kernel_rfl) (by kernel_rfl))), .pointer (some ⟨b2, off' + k * 2 + 1, none⟩), ?_, rfl⟩
                have e31 : a.eval (.tmp 31) = .pointer (some ⟨b2, off' + k * 2, none⟩) := (c.new 14 31 (by kernel_rfl) (by kernel_rfl))
                generalize a.eval = ρ at e31 ⊢
                simp [execOp, e31, go_sem]
              · refine op_value fun a w c => ⟨(wanted_yes rfl (by kernel_rfl) (c.new 6 23 (by kernel_rfl) (by kernel_rfl))), .int .i64 vk, ?_, rfl⟩
                have e32 : a.eval (.tmp 32) = .pointer (some ⟨b2, off' + k * 2 + 1, none⟩) := (c.new 15 32 (by kernel_rfl) (by kernel_rfl))
                have hc := (c.ev.cell (p := ⟨_, _, none⟩) hb2).trans d1
                generalize a.eval = ρ at e32 ⊢
                simp [execOp, e32, hc, go_sem]
              · refine op_value fun a w c => ⟨(wanted_yes rfl (by kernel_rfl) (c.new 6 23 (by kernel_rfl) (by kernel_rfl))), .bool false, ?_, rfl⟩
                have e28 : a.eval (.tmp 28) = .int .i64 vk := (c.new 11 28 (by kernel_rfl) (by kernel_rfl))
                have e33 : a.eval (.tmp 33) = .int .i64 vk := (c.new 16 33 (by kernel_rfl) (by kernel_rfl))
                generalize a.eval = ρ at e28 e33 ⊢
                simp [execOp, e28, e33, go_sem]
              · refine op_value fun a w c => ⟨(wanted_plain rfl), _, run_pick_false rfl (c.new 6 23 (by kernel_rfl) (by kernel_rfl)) w, (c.new 17 34 (by kernel_rfl) (by kernel_rfl))⟩
            intro s w4 hEr hold hnew
            have f0 : s 0 = .slice (some ⟨b2, off', none⟩) n cap := hold 0 (by kernel_rfl)
            have f1 : s 1 = .slice (some ⟨b1, off, none⟩) n cap' := hold 1 (by kernel_rfl)
            have f2 : s 2 = undef := hold 2 (by kernel_rfl)
            have f3 : s 3 = undef := hold 3 (by kernel_rfl)
            have f5 : s 5 = .int .i64 (k : Int) := hold 5 (by kernel_rfl)
            have f6 : s 6 = .slice (some ⟨b2, off', none⟩) n cap := hold 6 (by kernel_rfl)
            have f7 : s 7 = .int .i64 (n : Int) := hold 7 (by kernel_rfl)
            have f8 : s 8 = .slice (some ⟨b1, off, none⟩) n cap' := hold 8 (by kernel_rfl)
            have f9 : s 9 = .int .i64 (n : Int) := hold 9 (by kernel_rfl)
            have f10 : s 10 = .bool false := hold 10 (by kernel_rfl)
            have f17 : s 17 = .slice (some ⟨b1, off, none⟩) n cap' := hnew 0 17 (by kernel_rfl)
            have f18 : s 18 = .int .i64 (k : Int) := hnew 1 18 (by kernel_rfl)
            have f19 : s 19 = .pointer (some ⟨b1, off + k * 3, none⟩) := hnew 2 19 (by kernel_rfl)
            have f20 : s 20 = vv vk vn vs := hnew 3 20 (by kernel_rfl)
            have f21 : s 21 = .bool true := hnew 4 21 (by kernel_rfl)
            have f22 : s 22 = .bool false := hnew 5 22 (by kernel_rfl)
            have f23 : s 23 = .bool false := hnew 6 23 (by kernel_rfl)
            have f24 : s 24 = .slice (some ⟨b1, off, none⟩) n cap' := hnew 7 24 (by kernel_rfl)
            have f25 : s 25 = .int .i64 (k : Int) := hnew 8 25 (by kernel_rfl)
            have f26 : s 26 = .pointer (some ⟨b1, off + k * 3, none⟩) := hnew 9 26 (by kernel_rfl)
            have f27 : s 27 = .pointer (some ⟨b1, off + k * 3, none⟩) := hnew 10 27 (by kernel_rfl)
            have f28 : s 28 = .int .i64 vk := hnew 11 28 (by kernel_rfl)
            have f29 : s 29 = .slice (some ⟨b2, off', none⟩) n cap := hnew 12 29 (by kernel_rfl)
            have f30 : s 30 = .int .i64 (k : Int) := hnew 13 30 (by kernel_rfl)
            have f31 : s 31 = .pointer (some ⟨b2, off' + k * 2, none⟩) := hnew 14 31 (by kernel_rfl)
            have f32 : s 32 = .pointer (some ⟨b2, off' + k * 2 + 1, none⟩) := hnew 15 32 (by kernel_rfl)
            have f33 : s 33 = .int .i64 vk := hnew 16 33 (by kernel_rfl)
            have f34 : s 34 = .bool false := hnew 17 34 (by kernel_rfl)
            have f35 : s 35 = .bool false := hnew 18 35 (by kernel_rfl)
            change Exit.then _ _ .normal ⟨#[s 0, s 1, s 2, s 3, s 4, s 5, s 6, s 7, s 8, s 9, s 10, s 11, s 12, s 13, s 14, s 15, s 16, s 17, s 18, s 19, s 20, s 21, s 22, s 23, s 24, s 25, s 26, s 27, s 28, s 29, s 30, s 31, s 32, s 33, s 34, s 35], _⟩ _
            simp only [f0, f1, f2, f3, f5, f6, f7, f8, f9, f10, f17, f18, f19, f20, f21, f22, f23, f24, f25, f26, f27, f28, f29, f30, f31, f32, f33, f34, f35]
            clear hold hnew
            generalize s 4 = u4
            generalize s 11 = u11
            generalize s 12 = u12
            generalize s 13 = u13
            generalize s 14 = u14
            generalize s 15 = u15
            generalize s 16 = u16
            go_wp2
            go_roundw
            case rel => exact ⟨k + 1, by omega, by go_num, HF, hE.trans hEr⟩
            case measure => simp [intOf]; omega
          · have HF : Hid (fitsL l r = false) := Lib.hid (fitsL_not k l r _ _ HY.out HX.out (.inr hkk))
            clear hrr
            go_wp2_with fail
            refine wp_region_slots hmix [fun v _ => v = .slice (some ⟨b1, off, none⟩) n cap', fun v _ => v = .int .i64 (k : Int), fun v _ => v = .pointer (some ⟨b1, off + k * 3, none⟩), fun v _ => v = vv vk vn vs, fun v _ => v = .bool true, fun v _ => v = .bool false, fun v _ => v = .bool false, fun v _ => v = .slice (some ⟨b1, off, none⟩) n cap', fun v _ => v = .int .i64 (k : Int), fun v _ => v = .pointer (some ⟨b1, off + k * 3, none⟩), fun v _ => v = .pointer (some ⟨b1, off + k * 3, none⟩), fun v _ => v = .int .i64 vk, fun v _ => v = .slice (some ⟨b2, off', none⟩) n cap, fun v _ => v = .int .i64 (k : Int), fun v _ => v = .pointer (some ⟨b2, off' + k * 2, none⟩), fun v _ => v = .pointer (some ⟨b2, off' + k * 2 + 1, none⟩), fun v _ => v = .int .i64 ck, fun v _ => v = .bool true, fun v _ => v = .bool true]
              36 rfl (by kernel_rfl) ⟨mono_eq _, mono_eq _, mono_eq _, mono_eq _, mono_eq _, mono_eq _, mono_eq _, mono_eq _, mono_eq _, mono_eq _, mono_eq _, mono_eq _, mono_eq _, mono_eq _, mono_eq _, mono_eq _, mono_eq _, mono_eq _, mono_eq _, trivial⟩ ?_ ?_
            · refine ops_cons 0 ?_ (ops_cons 1 ?_ (ops_cons 2 ?_ (ops_cons 3 ?_ (ops_cons 4 ?_ (ops_cons 5 ?_ (ops_cons 6 ?_ (ops_cons 7 ?_ (ops_cons 8 ?_ (ops_cons 9 ?_ (ops_cons 10 ?_ (ops_cons 11 ?_ (ops_cons 12 ?_ (ops_cons 13 ?_ (ops_cons 14 ?_ (ops_cons 15 ?_ (ops_cons 16 ?_ (ops_cons 17 ?_ (ops_cons 18 ?_ (ops_nil 19)))))))))))))))))))
              · refine op_value fun a w c => ⟨(wanted_plain rfl), _, run_move _ rfl w, (c.was 1 (by kernel_rfl) rfl)⟩
              · refine op_value fun a w c => ⟨(wanted_plain rfl), _, run_move _ rfl w, (c.was 5 (by kernel_rfl) rfl)⟩
              · refine op_value fun a w c => ⟨(wanted_plain rfl), .pointer (some ⟨b1, off + k * 3, none⟩), ?_, rfl⟩
                have e17 : a.eval (.tmp 17) = .slice (some ⟨b1, off, none⟩) n cap' := (c.new 0 17 (by kernel_rfl) (by kernel_rfl))
                have e18 : a.eval (.tmp 18) = .int .i64 (k : Int) := (c.new 1 18 (by kernel_rfl) (by kernel_rfl))
                generalize a.eval = ρ at e17 e18 ⊢
                simp [execOp, e17, e18, go_sem, i1, i2]
              · refine op_value fun a w c => ⟨(wanted_plain rfl), _, run_load_elem rfl ((c.new 2 19 (by kernel_rfl) (by kernel_rfl)) : a.eval (.tmp 19) = .pointer (some ⟨b1, off + k * 3, none⟩)) ((c.ev.cell (p := ⟨_, _, none⟩) hb1).trans c0) ((c.ev.cell (p := ⟨_, _, none⟩) hb1).trans c1) ((c.ev.cell (p := ⟨_, _, none⟩) hb1).trans c2), rfl⟩
              · refine op_call fun a w c => ⟨(wanted_plain rfl), 57, #[vv vk vn vs], ?_, ?_⟩
                · rw [run_call 57 _ _ rfl (by kernel_rfl)]
                  have e20 : a.eval (.tmp 20) = vv vk vn vs := (c.new 3 20 (by kernel_rfl) (by kernel_rfl))
                  simp [e20]
                · refine (HV w).mono ?_
                  rintro e w2 ⟨rfl, hE⟩
                  exact ⟨_, rfl, hE, rfl⟩
              · refine op_value fun a w c => ⟨(wanted_plain rfl), .bool false, ?_, rfl⟩
                have e21 : a.eval (.tmp 21) = .bool true := (c.new 4 21 (by kernel_rfl) (by kernel_rfl))
                generalize a.eval = ρ at e21 ⊢
                simp [execOp, e21, go_sem]
              · refine op_value fun a w c => ⟨(wanted_plain rfl), _, run_move _ rfl w, (c.new 5 22 (by kernel_rfl) (by kernel_rfl))⟩
              · refine op_value fun a w c => ⟨(wanted_yes rfl (by kernel_rfl) (c.new 6 23 (by kernel_rfl) (by kernel_rfl))), _, run_move _ rfl w, (c.was 1 (by kernel_rfl) rfl)⟩
              · refine op_value fun a w c => ⟨(wanted_yes rfl (by kernel_rfl) (c.new 6 23 (by kernel_rfl) (by kernel_rfl))), _, run_move _ rfl w, (c.was 5 (by kernel_rfl) rfl)⟩
              · refine op_value fun a w c => ⟨(wanted_yes rfl (by kernel_rfl) (c.new 6 23 (by kernel_rfl) (by kernel_rfl))), .pointer (some ⟨b1, off + k * 3, none⟩), ?_, rfl⟩
                have e24 : a.eval (.tmp 24) = .slice (some ⟨b1, off, none⟩) n cap' := (c.new 7 24 (by kernel_rfl) (by kernel_rfl))
                have e25 : a.eval (.tmp 25) = .int .i64 (k : Int) := (c.new 8 25 (by kernel_rfl) (by kernel_rfl))
                generalize a.eval = ρ at e24 e25 ⊢
                simp [execOp, e24, e25, go_sem, i1, i2]
              · refine op_value fun a w c => ⟨(wanted_yes rfl (by kernel_rfl) (c.new 6 23 (by kernel_rfl) (by kernel_rfl))), .pointer (some ⟨b1, off + k * 3, none⟩), ?_, rfl⟩
                have e26 : a.eval (.tmp 26) = .pointer (some ⟨b1, off + k * 3, none⟩) := (c.new 9 26 (by kernel_rfl) (by kernel_rfl))
                generalize a.eval = ρ at e26 ⊢
                simp [execOp, e26, go_sem]
              · refine op_value fun a w c => ⟨(wanted_yes rfl (by kernel_rfl) (c.new 6 23 (by kernel_rfl) (by kernel_rfl))), .int .i64 vk, ?_, rfl⟩
                have e27 : a.eval (.tmp 27) = .pointer (some ⟨b1, off + k * 3, none⟩) := (c.new 10 27 (by kernel_rfl) (by kernel_rfl))
                have hc := (c.ev.cell (p := ⟨_, _, none⟩) hb1).trans c0
                generalize a.eval = ρ at e27 ⊢
                simp [execOp, e27, hc, go_sem]
              · refine op_value fun a w c => ⟨(wanted_yes rfl (by kernel_rfl) (c.new 6 23 (by kernel_rfl) (by kernel_rfl))), _, run_move _ rfl w, (c.was 0 (by kernel_rfl) rfl)⟩
              · refine op_value fun a w c => ⟨(wanted_yes rfl (by kernel_rfl) (c.new 6 23 (by kernel_rfl) (by kernel_rfl))), _, run_move _ rfl w, (c.was 5 (by kernel_rfl) rfl)⟩
              · refine op_value fun a w c => ⟨(wanted_yes rfl (by kernel_rfl) (c.new 6 23 (by kernel_rfl) (by kernel_rfl))), .pointer (some ⟨b2, off' + k * 2, none⟩), ?_, rfl⟩
                have e29 : a.eval (.tmp 29) = .slice (some ⟨b2, off', none⟩) n cap := (c.new 12 29 (by kernel_rfl) (by kernel_rfl))
                have e30 : a.eval (.tmp 30) = .int .i64 (k : Int) := (c.new 13 30 (by kernel_rfl) (by kernel_rfl))
                generalize a.eval = ρ at e29 e30 ⊢
                simp [execOp, e29, e30, go_sem, i1, i2]
              · refine op_value fun a w c => ⟨(wanted_yes rfl (by kernel_rfl) (c.new 6 23 (by kernel_rfl) (by kernel_rfl))), .pointer (some ⟨b2, off' + k * 2 + 1, none⟩), ?_, rfl⟩
                have e31 : a.eval (.tmp 31) = .pointer (some ⟨b2, off' + k * 2, none⟩) := (c.new 14 31 (by kernel_rfl) (by kernel_rfl))
                generalize a.eval = ρ at e31 ⊢
                simp [execOp, e31, go_sem]
              · refine op_value fun a w c => ⟨(wanted_yes rfl (by kernel_rfl) (c.new 6 23 (by kernel_rfl) (by kernel_rfl))), .int .i64 ck, ?_, rfl⟩
                have e32 : a.eval (.tmp 32) = .pointer (some ⟨b2, off' + k * 2 + 1, none⟩) := (c.new 15 32 (by kernel_rfl) (by kernel_rfl))
                have hc := (c.ev.cell (p := ⟨_, _, none⟩) hb2).trans d1
                generalize a.eval = ρ at e32 ⊢
                simp [execOp, e32, hc, go_sem]
              · refine op_value fun a w c => ⟨(wanted_yes rfl (by kernel_rfl) (c.new 6 23 (by kernel_rfl) (by kernel_rfl))), .bool true, ?_, rfl⟩
                have e28 : a.eval (.tmp 28) = .int .i64 vk := (c.new 11 28 (by kernel_rfl) (by kernel_rfl))
                have e33 : a.eval (.tmp 33) = .int .i64 ck := (c.new 16 33 (by kernel_rfl) (by kernel_rfl))
                generalize a.eval = ρ at e28 e33 ⊢
                simp [execOp, e28, e33, go_sem, hkk]
              · refine op_value fun a w c => ⟨(wanted_plain rfl), _, run_pick_false rfl (c.new 6 23 (by kernel_rfl) (by kernel_rfl)) w, (c.new 17 34 (by kernel_rfl) (by kernel_rfl))⟩
            intro s w4 hEr hold hnew
            have f0 : s 0 = .slice (some ⟨b2, off', none⟩) n cap := hold 0 (by kernel_rfl)
            have f1 : s 1 = .slice (some ⟨b1, off, none⟩) n cap' := hold 1 (by kernel_rfl)
            have f2 : s 2 = undef := hold 2 (by kernel_rfl)
            have f3 : s 3 = undef := hold 3 (by kernel_rfl)
            have f5 : s 5 = .int .i64 (k : Int) := hold 5 (by kernel_rfl)
            have f6 : s 6 = .slice (some ⟨b2, off', none⟩) n cap := hold 6 (by kernel_rfl)
            have f7 : s 7 = .int .i64 (n : Int) := hold 7 (by kernel_rfl)
            have f8 : s 8 = .slice (some ⟨b1, off, none⟩) n cap' := hold 8 (by kernel_rfl)
            have f9 : s 9 = .int .i64 (n : Int) := hold 9 (by kernel_rfl)
            have f10 : s 10 = .bool false := hold 10 (by kernel_rfl)
            have f17 : s 17 = .slice (some ⟨b1, off, none⟩) n cap' := hnew 0 17 (by kernel_rfl)
            have f18 : s 18 = .int .i64 (k : Int) := hnew 1 18 (by kernel_rfl)
            have f19 : s 19 = .pointer (some ⟨b1, off + k * 3, none⟩) := hnew 2 19 (by kernel_rfl)
            have f20 : s 20 = vv vk vn vs := hnew 3 20 (by kernel_rfl)
            have f21 : s 21 = .bool true := hnew 4 21 (by kernel_rfl)
            have f22 : s 22 = .bool false := hnew 5 22 (by kernel_rfl)
            have f23 : s 23 = .bool false := hnew 6 23 (by kernel_rfl)
            have f24 : s 24 = .slice (some ⟨b1, off, none⟩) n cap' := hnew 7 24 (by kernel_rfl)
            have f25 : s 25 = .int .i64 (k : Int) := hnew 8 25 (by kernel_rfl)
            have f26 : s 26 = .pointer (some ⟨b1, off + k * 3, none⟩) := hnew 9 26 (by kernel_rfl)
            have f27 : s 27 = .pointer (some ⟨b1, off + k * 3, none⟩) := hnew 10 27 (by kernel_rfl)
            have f28 : s 28 = .int .i64 vk := hnew 11 28 (by kernel_rfl)
            have f29 : s 29 = .slice (some ⟨b2, off', none⟩) n cap := hnew 12 29 (by kernel_rfl)
            have f30 : s 30 = .int .i64 (k : Int) := hnew 13 30 (by kernel_rfl)
            have f31 : s 31 = .pointer (some ⟨b2, off' + k * 2, none⟩) := hnew 14 31 (by kernel_rfl)
            have f32 : s 32 = .pointer (some ⟨b2, off' + k * 2 + 1, none⟩) := hnew 15 32 (by kernel_rfl)
            have f33 : s 33 = .int .i64 ck := hnew 16 33 (by kernel_rfl)
            have f34 : s 34 = .bool true := hnew 17 34 (by kernel_rfl)
            have f35 : s 35 = .bool true := hnew 18 35 (by kernel_rfl)
            change Exit.then _ _ .normal ⟨#[s 0, s 1, s 2, s 3, s 4, s 5, s 6, s 7, s 8, s 9, s 10, s 11, s 12, s 13, s 14, s 15, s 16, s 17, s 18, s 19, s 20, s 21, s 22, s 23, s 24, s 25, s 26, s 27, s 28, s 29, s 30, s 31, s 32, s 33, s 34, s 35], _⟩ _
            simp only [f0, f1, f2, f3, f5, f6, f7, f8, f9, f10, f17, f18, f19, f20, f21, f22, f23, f24, f25, f26, f27, f28, f29, f30, f31, f32, f33, f34, f35]
            clear hold hnew
            go_wp2
            go_ret
            exact ⟨by rw [HF.out]; rfl, hE.trans hEr⟩
      · obtain rfl : k = n := by omega
        have HF : Hid (fitsL l r = true) := Lib.hid (by
          have := HT.out
          rwa [List.take_of_length_le (by rw [HL.out]; exact Nat.le_refl _), List.take_of_length_le (by rw [HM.out]; exact Nat.le_refl _)] at this)
        go_wp2
        go_ret
        exact ⟨by rw [HF.out]; rfl, hE⟩
  · have hne : ¬ (n : Int) = (m : Int) := by omega
    have HF : Hid (fitsL l r = false) := Lib.hid (fitsL_ne (by rw [HL.out, HM.out]; omega))
    go_enter Try.func36, Try.ntmps36
    go_wp2
    go_ret
    exact ⟨by rw [HF.out]; rfl, Ev.refl _⟩
end Go.Proofs.Ytgiofdmedhhobaa
