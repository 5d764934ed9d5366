/-
  Texts that belong together: The contracts of package row: names and columns. The document's own Name, Find and Right (chapter 5). The document's own Less, Same and Fits (chapter 5).
-/
import Derived.Lib.AtoiErrMem
import Derived.WalkSmall
import Derived.Test.YthpiobkghfdkkaaGreatZ8O
namespace Go.Proofs.YthpiobkghfdkkaaGreat
open Go.RowKit
set_option linter.unusedVariables false

theorem tl (s : ByteArray) : s.toList = s.data.toList := by
  obtain ⟨⟨x⟩⟩ := s
  simp
theorem word_yes {x W : List UInt8} (h : (x == W) = true) (hm : words.contains W = true) : words.contains x = true := by
  rw [beq_iff_eq] at h
  rw [h]
  exact hm

set_option maxRecDepth 100000 in
set_option maxHeartbeats 4000000 in
theorem row_isWord (s : ByteArray) (w : World) :
    Calls Tryz.prog 127 #[.string s] w fun e w' => e = .returned (.bool (words.contains s.data.toList)) ∧ w = w' := by
  rw [← tl]
  cases e0 : (s.toList == [116, 97, 98, 108, 101])
  case true =>
    have HF := Lib.hid (word_yes e0 rfl)
    go_enter Tryz.func127, Tryz.ntmps127
    go_wp2
    go_ret
    exact ⟨by rw [HF.out]; rfl, rfl⟩
  cases e1 : (s.toList == [102, 105, 108, 116, 101, 114])
  case true =>
    have HF := Lib.hid (word_yes e1 rfl)
    go_enter Tryz.func127, Tryz.ntmps127
    go_wp2
    go_ret
    exact ⟨by rw [HF.out]; rfl, rfl⟩
  cases e2 : (s.toList == [112, 114, 111, 106, 101, 99, 116])
  case true =>
    have HF := Lib.hid (word_yes e2 rfl)
    go_enter Tryz.func127, Tryz.ntmps127
    go_wp2
    go_ret
    exact ⟨by rw [HF.out]; rfl, rfl⟩
  cases e3 : (s.toList == [106, 111, 105, 110])
  case true =>
    have HF := Lib.hid (word_yes e3 rfl)
    go_enter Tryz.func127, Tryz.ntmps127
    go_wp2
    go_ret
    exact ⟨by rw [HF.out]; rfl, rfl⟩
  cases e4 : (s.toList == [117, 110, 105, 111, 110])
  case true =>
    have HF := Lib.hid (word_yes e4 rfl)
    go_enter Tryz.func127, Tryz.ntmps127
    go_wp2
    go_ret
    exact ⟨by rw [HF.out]; rfl, rfl⟩
  cases e5 : (s.toList == [100, 105, 115, 116, 105, 110, 99, 116])
  case true =>
    have HF := Lib.hid (word_yes e5 rfl)
    go_enter Tryz.func127, Tryz.ntmps127
    go_wp2
    go_ret
    exact ⟨by rw [HF.out]; rfl, rfl⟩
  cases e6 : (s.toList == [103, 114, 111, 117, 112])
  case true =>
    have HF := Lib.hid (word_yes e6 rfl)
    go_enter Tryz.func127, Tryz.ntmps127
    go_wp2
    go_ret
    exact ⟨by rw [HF.out]; rfl, rfl⟩
  cases e7 : (s.toList == [99, 111, 117, 110, 116])
  case true =>
    have HF := Lib.hid (word_yes e7 rfl)
    go_enter Tryz.func127, Tryz.ntmps127
    go_wp2
    go_ret
    exact ⟨by rw [HF.out]; rfl, rfl⟩
  cases e8 : (s.toList == [115, 117, 109])
  case true =>
    have HF := Lib.hid (word_yes e8 rfl)
    go_enter Tryz.func127, Tryz.ntmps127
    go_wp2
    go_ret
    exact ⟨by rw [HF.out]; rfl, rfl⟩
  cases e9 : (s.toList == [109, 105, 110])
  case true =>
    have HF := Lib.hid (word_yes e9 rfl)
    go_enter Tryz.func127, Tryz.ntmps127
    go_wp2
    go_ret
    exact ⟨by rw [HF.out]; rfl, rfl⟩
  cases e10 : (s.toList == [109, 97, 120])
  case true =>
    have HF := Lib.hid (word_yes e10 rfl)
    go_enter Tryz.func127, Tryz.ntmps127
    go_wp2
    go_ret
    exact ⟨by rw [HF.out]; rfl, rfl⟩
  cases e11 : (s.toList == [97, 100, 100])
  case true =>
    have HF := Lib.hid (word_yes e11 rfl)
    go_enter Tryz.func127, Tryz.ntmps127
    go_wp2
    go_ret
    exact ⟨by rw [HF.out]; rfl, rfl⟩
  cases e12 : (s.toList == [115, 117, 98])
  case true =>
    have HF := Lib.hid (word_yes e12 rfl)
    go_enter Tryz.func127, Tryz.ntmps127
    go_wp2
    go_ret
    exact ⟨by rw [HF.out]; rfl, rfl⟩
  cases e13 : (s.toList == [109, 117, 108])
  case true =>
    have HF := Lib.hid (word_yes e13 rfl)
    go_enter Tryz.func127, Tryz.ntmps127
    go_wp2
    go_ret
    exact ⟨by rw [HF.out]; rfl, rfl⟩
  cases e14 : (s.toList == [110, 101, 103])
  case true =>
    have HF := Lib.hid (word_yes e14 rfl)
    go_enter Tryz.func127, Tryz.ntmps127
    go_wp2
    go_ret
    exact ⟨by rw [HF.out]; rfl, rfl⟩
  cases e15 : (s.toList == [101, 113])
  case true =>
    have HF := Lib.hid (word_yes e15 rfl)
    go_enter Tryz.func127, Tryz.ntmps127
    go_wp2
    go_ret
    exact ⟨by rw [HF.out]; rfl, rfl⟩
  cases e16 : (s.toList == [108, 116])
  case true =>
    have HF := Lib.hid (word_yes e16 rfl)
    go_enter Tryz.func127, Tryz.ntmps127
    go_wp2
    go_ret
    exact ⟨by rw [HF.out]; rfl, rfl⟩
  cases e17 : (s.toList == [97, 110, 100])
  case true =>
    have HF := Lib.hid (word_yes e17 rfl)
    go_enter Tryz.func127, Tryz.ntmps127
    go_wp2
    go_ret
    exact ⟨by rw [HF.out]; rfl, rfl⟩
  cases e18 : (s.toList == [111, 114])
  case true =>
    have HF := Lib.hid (word_yes e18 rfl)
    go_enter Tryz.func127, Tryz.ntmps127
    go_wp2
    go_ret
    exact ⟨by rw [HF.out]; rfl, rfl⟩
  cases e19 : (s.toList == [110, 111, 116])
  case true =>
    have HF := Lib.hid (word_yes e19 rfl)
    go_enter Tryz.func127, Tryz.ntmps127
    go_wp2
    go_ret
    exact ⟨by rw [HF.out]; rfl, rfl⟩
  cases e20 : (s.toList == [99, 97, 116])
  case true =>
    have HF := Lib.hid (word_yes e20 rfl)
    go_enter Tryz.func127, Tryz.ntmps127
    go_wp2
    go_ret
    exact ⟨by rw [HF.out]; rfl, rfl⟩
  cases e21 : (s.toList == [108, 101, 110])
  case true =>
    have HF := Lib.hid (word_yes e21 rfl)
    go_enter Tryz.func127, Tryz.ntmps127
    go_wp2
    go_ret
    exact ⟨by rw [HF.out]; rfl, rfl⟩
  cases e22 : (s.toList == [105, 102])
  case true =>
    have HF := Lib.hid (word_yes e22 rfl)
    go_enter Tryz.func127, Tryz.ntmps127
    go_wp2
    go_ret
    exact ⟨by rw [HF.out]; rfl, rfl⟩
  have HF : Hid (words.contains s.toList = false) := Lib.hid (by simp only [words, List.contains_cons, List.contains_nil, e0, e1, e2, e3, e4, e5, e6, e7, e8, e9, e10, e11, e12, e13, e14, e15, e16, e17, e18, e19, e20, e21, e22, Bool.or_false])
  go_enter Tryz.func127, Tryz.ntmps127
  go_wp2
  go_ret
  exact ⟨by rw [HF.out]; rfl, rfl⟩

theorem letters_take {l : List UInt8} {k : Nat} {c : UInt8} (hk : k < l.length) (hc : l.getD k 0 = c) : (l.take (k + 1)).all letterB = ((l.take k).all letterB && letterB c) := by
  rw [List.take_succ_eq_append_getElem hk, List.all_append]
  simp [List.getD, hk] at hc
  simp [hc]
theorem letters_not {l : List UInt8} {k : Nat} {c : UInt8} (hk : k < l.length) (hc : l.getD k 0 = c) (h : letterB c = false) : l.all letterB = false := by
  rw [List.all_eq_false]
  simp [List.getD, hk] at hc
  exact ⟨c, hc ▸ List.getElem_mem hk, by simp [h]⟩
theorem nameV_long {s : ByteArray} (h : ¬ (1 ≤ s.size ∧ s.size ≤ 12)) : nameV s = false := by
  unfold nameV
  by_cases h1 : 1 ≤ s.size
  · rw [decide_eq_false (p := s.size ≤ 12) (fun h2 => h ⟨h1, h2⟩)]; simp
  · rw [decide_eq_false h1]; rfl
theorem nameV_in {s : ByteArray} (h1 : 1 ≤ s.size) (h2 : s.size ≤ 12) : nameV s = (s.data.toList.all letterB && !words.contains s.data.toList) := by
  unfold nameV
  rw [decide_eq_true h1, decide_eq_true h2]; rfl

set_option maxRecDepth 100000 in
set_option maxHeartbeats 4000000 in
theorem row_name (s : ByteArray) (w : World) :
    Calls Tryz.prog 112 #[.string s] w fun e w' => e = .returned (.bool (nameV s)) ∧ Ev w w' := by
  by_cases h1 : 1 ≤ s.size
  · by_cases h2 : s.size ≤ 12
    · rw [nameV_in h1 h2]
      have HW := Lib.hid (fun w1 => row_isWord s w1)
      generalize words.contains s.data.toList = wd at *
      obtain ⟨al, hal⟩ : ∃ al, s.data.toList.all letterB = al := ⟨_, rfl⟩
      rw [hal]
      have HAL := Lib.hid hal
      clear hal
      have i1 : ¬ (s.size : Int) < 1 := by omega
      have i2 : ¬ (12 : Int) < (s.size : Int) := by omega
      have hcv := Lib.run_convert_string_bytes (P := Tryz.prog) w 9 159 5 s Tryz.underlying9 Tryz.underlying159 Tryz.underlying5
      go_enter Tryz.func112, Tryz.ntmps112
      go_wp2
      obtain ⟨g, hg⟩ : ∃ g, g = w.heap.size := ⟨_, rfl⟩
      obtain ⟨cap, hcap⟩ : ∃ cap, cap = grownCap w s.size 0 5 := ⟨_, rfl⟩
      obtain ⟨n, hn⟩ : ∃ n, n = s.size := ⟨_, rfl⟩
      have hle : n ≤ cap := by rw [hn, hcap]; exact grownCap_ge _ _ _ _
      have hmx : cap ≤ maxLen := by rw [hcap]; exact grownCap_le_maxLen _ _ _ _ (by unfold maxLen; omega)
      have hll : s.data.toList.length = n := by rw [hn, Array.length_toList]; rfl
      have hEc : Ev w (Lib.bytesWorld w 5 s) := Lib.bytesWorld_below w 5 s
      have hcell : ∀ i, i < n → (Lib.bytesWorld w 5 s).cell? ⟨g, i, none⟩ = some (.int .u8 ((s.data.toList.getD i 0).toNat : Int)) := fun i hi => by rw [hg]; exact Lib.bytesWorld_cell w 5 s i (by omega)
      rw [← hg, ← hcap, ← hn]
      generalize Lib.bytesWorld w 5 s = w2 at *
      have HL := Lib.hid hll
      have HN := Lib.hid hn
      unfold maxLen at hmx
      rw [← hn] at i1 i2
      clear hcv hg hcap hll hn h1 h2
      go_loop [16] (fun i => ∃ k : Nat, k ≤ n ∧ i = .int .i64 (k : Int) ∧ Hid ((s.data.toList.take k).all letterB = true)) (fun i => n - (intOf i).toNat)
      case atStart => exact ⟨0, Nat.zero_le _, rfl, Lib.hid rfl⟩
      case round =>
        obtain ⟨k, hk, rfl, HT⟩ := hrel
        by_cases hlt : k < n
        · have hc := hcell k hlt
          obtain ⟨x, hx⟩ : ∃ x, s.data.toList.getD k 0 = x := ⟨_, rfl⟩
          rw [hx] at hc
          have HX := Lib.hid hx
          clear hx hcell
          by_cases l1 : 97 ≤ x.toNat
          · have j1 : ¬ ((x.toNat : Int) < 97) := by omega
            by_cases l2 : x.toNat ≤ 122
            · have j2 : ¬ ((122 : Int) < (x.toNat : Int)) := by omega
              have HF : Hid ((s.data.toList.take (k + 1)).all letterB = true) := Lib.hid (by rw [letters_take (by rw [HL.out]; exact hlt) HX.out, HT.out]; unfold letterB; rw [decide_eq_true l1, decide_eq_true l2]; rfl)
              clear l1 l2
              go_wp2
              go_round
              case rel => exact ⟨k + 1, by omega, by go_num, HF⟩
              case measure => simp [intOf]; omega
            · have j2 : (122 : Int) < (x.toNat : Int) := by omega
              have HF : Hid (s.data.toList.all letterB = false) := Lib.hid (letters_not (by rw [HL.out]; exact hlt) HX.out (by unfold letterB; rw [decide_eq_false l2]; simp))
              clear l1 l2
              go_wp2
              go_ret
              exact ⟨by rw [← HAL.out, HF.out]; rfl, hEc⟩
          · have j1 : (x.toNat : Int) < 97 := by omega
            have HF : Hid (s.data.toList.all letterB = false) := Lib.hid (letters_not (by rw [HL.out]; exact hlt) HX.out (by unfold letterB; rw [decide_eq_false l1]; rfl))
            clear l1
            go_wp2
            go_ret
            exact ⟨by rw [← HAL.out, HF.out]; rfl, hEc⟩
        · obtain rfl : k = n := by omega
          have HF : Hid (s.data.toList.all letterB = true) := Lib.hid (by
            have := HT.out
            rwa [List.take_of_length_le (by rw [HL.out]; exact Nat.le_refl _)] at this)
          go_wp2_with (first | ((with_reducible refine (HW.out _).mono ?_); rintro y w3 ⟨rfl, rfl⟩))
          go_ret
          exact ⟨by rw [← HAL.out, HF.out]; rfl, hEc⟩
    · rw [nameV_long (fun h => h2 h.2)]
      have i1 : ¬ (s.size : Int) < 1 := by omega
      have i2 : (12 : Int) < (s.size : Int) := by omega
      go_enter Tryz.func112, Tryz.ntmps112
      go_wp2
      go_ret
      exact ⟨rfl, Ev.refl _⟩
  · rw [nameV_long (fun h => h1 h.1)]
    have i1 : (s.size : Int) < 1 := by omega
    go_enter Tryz.func112, Tryz.ntmps112
    go_wp2
    go_ret
    exact ⟨rfl, Ev.refl _⟩

set_option maxRecDepth 100000 in
set_option maxHeartbeats 4000000 in
theorem row_find {A : Option Addr} {n cap : Nat} {l : List C} (s : ByteArray) (w : World) (h : Cs w A n cap l) :
    Calls Tryz.prog 128 #[.slice A n cap, .string s] w fun e w' => e = .returned (.tuple #[.int .i64 (foundAt (findC l s)), .bool (findC l s).isSome]) ∧ Ev w w' := by
  have hn := h.le
  have hm := h.max
  have HN := Lib.hid h.len
  go_enter Tryz.func128, Tryz.ntmps128
  go_wp2
  go_loopw [10] (fun i wr => ∃ k : Nat, k ≤ n ∧ i = .int .i64 k ∧ Hid (∀ i c, i < k → l[i]? = some c → named s c = false) ∧ Ev w wr) (fun i _ => n - (intOf i).toNat)
  case atStart => exact ⟨0, Nat.zero_le _, rfl, Lib.hid (fun i c hi => by omega), Ev.refl _⟩
  case round =>
    obtain ⟨k, hk, rfl, HT, hE⟩ := hrel
    by_cases hlt : k < n
    · obtain ⟨b, off, ⟨xs, xk⟩, rfl, hb, hx, c0, c1⟩ := (h.ev hE).ccell hlt
      have HX := Lib.hid hx
      clear hx
      simp only at c0 c1
      cases ht : (xs.toList == s.toList)
      · have HF : Hid (∀ i c, i < k + 1 → l[i]? = some c → named s c = false) := Lib.hid (fun i c hi hc => by
          by_cases hik : i < k
          · exact HT.out i c hik hc
          · obtain rfl : i = k := by omega
            rw [HX.out] at hc
            obtain rfl := Option.some.inj hc
            exact ht)
        go_wp2
        go_roundw
        case rel => exact ⟨k + 1, by omega, by go_num, HF, hE.trans (Ev.alloc _ _)⟩
        case measure => simp [intOf]; omega
      · have HF := Lib.hid (findC_some HT.out HX.out ht)
        go_wp2
        go_ret2
        exact ⟨by rw [HF.out]; rfl, hE.trans (Ev.alloc _ _)⟩
    · obtain rfl : k = n := by omega
      have HF : Hid (findC l s = none) := Lib.hid (findC_none fun i c hi hc => HT.out i c (by rw [HN.out] at hi; exact hi) hc)
      go_wp2
      go_ret2
      exact ⟨by rw [HF.out]; rfl, hE⟩
end Go.Proofs.YthpiobkghfdkkaaGreat

namespace Go.Proofs.YthpiobkghfdkkaaGreat
open Go.RowKit
set_option linter.unusedVariables false

set_option maxRecDepth 100000 in
set_option maxHeartbeats 4000000 in
theorem ref5_right {A : Option Addr} {n cap : Nat} {l : List V} (w : World) (h : Vs w A n cap l) :
    Calls Tryz.prog 44 #[.slice A n cap] w fun e w' => e = .returned (.bool (rightR l)) ∧ Ev w w' := by
  have hn := h.le
  have hm := h.max
  have HN := Lib.hid h.len
  go_enter Tryz.func44, Tryz.ntmps44
  go_wp2
  go_loopw [3] (fun i wr => ∃ k : Nat, k ≤ n ∧ i = .int .i64 k ∧ Hid (okR (l.take k) = true) ∧ Ev w wr) (fun i _ => n - (intOf i).toNat)
  case atStart => exact ⟨0, Nat.zero_le _, rfl, Lib.hid rfl, Ev.refl _⟩
  case round =>
    obtain ⟨k, hk, rfl, HT, hE⟩ := hrel
    by_cases hlt : k < n
    · obtain ⟨b, off, ⟨xk, xn, xs⟩, rfl, hb, hx, c0, c1, c2⟩ := (h.ev hE).vcell hlt
      have HX := Lib.hid hx
      clear hx
      simp only at c0 c1 c2
      have HV := Lib.hid (fun w1 => refr_right xk xn xs w1)
      cases hr : rightV xk xn xs
      · have HF : Hid (rightR l = false) := Lib.hid (by unfold rightR; rw [okR_not HX.out hr]; simp)
        rw [hr] at HV
        go_wp2_with (first | ((with_reducible refine (HV.out _).mono ?_); rintro x w1 ⟨rfl, hE1⟩))
        go_ret
        exact ⟨by rw [HF.out]; rfl, hE.trans hE1⟩
      · have HF : Hid (okR (l.take (k + 1)) = true) := Lib.hid (by rw [okR_take HX.out, HT.out]; exact hr)
        rw [hr] at HV
        go_wp2_with (first | ((with_reducible refine (HV.out _).mono ?_); rintro x w1 ⟨rfl, hE1⟩))
        go_roundw
        case rel => exact ⟨k + 1, by omega, by go_num, HF, hE.trans hE1⟩
        case measure => simp [intOf]; omega
    · obtain rfl : k = n := by omega
      have HF : Hid (rightR l = (decide (1 ≤ k) && decide (k ≤ 6))) := Lib.hid (by
        have := HT.out
        rw [List.take_of_length_le (by rw [HN.out]; exact Nat.le_refl _)] at this
        unfold rightR
        rw [this, HN.out]
        simp)
      by_cases h1 : 1 ≤ k
      · have i1 : (1 : Int) ≤ (k : Int) := by omega
        have e : (decide (1 ≤ k) && decide (k ≤ 6)) = decide ((k : Int) ≤ 6) := by rw [decide_eq_true h1, Bool.true_and]; exact decide_eq_decide.2 (by omega)
        have HF2 := Lib.hid (HF.out.trans e)
        clear e HF
        go_wp2
        go_ret
        exact ⟨by rw [HF2.out]; rfl, hE⟩
      · have i1 : ¬ (1 : Int) ≤ (k : Int) := by omega
        have HF2 : Hid (rightR l = false) := Lib.hid (by rw [HF.out, decide_eq_false h1]; rfl)
        clear HF
        go_wp2
        go_ret
        exact ⟨by rw [HF2.out]; rfl, hE⟩
end Go.Proofs.YthpiobkghfdkkaaGreat

namespace Go.Proofs.YthpiobkghfdkkaaGreat
open Go.RowKit
set_option linter.unusedVariables false

set_option maxRecDepth 100000 in
set_option maxHeartbeats 8000000 in
theorem ref5_less {A B : Option Addr} {n m cap cap' : Nat} {a b : List V} (w : World) (h : Vs w A n cap a) (h' : Vs w B m cap' b) :
    Calls Tryz.prog 45 #[.slice A n cap, .slice B m cap'] w fun e w' => e = .returned (.bool (lessR a b)) ∧ Ev w w' := by
  have hn := h.le
  have hm := h.max
  have hn' := h'.le
  have hm' := h'.max
  have HL := Lib.hid h.len
  have HM := Lib.hid h'.len
  have HR := Lib.hid (fun w1 (h1 : Vs w1 A n cap a) => ref5_right w1 h1)
  have HR' := Lib.hid (fun w1 (h1 : Vs w1 B m cap' b) => ref5_right w1 h1)
  have hmix : Tryz.prog.follows .mixedOrders = true := by kernel_rfl
  unfold lessR
  have ho := @rightR_ok a
  have ho' := @rightR_ok b
  generalize rightR a = r at *
  generalize rightR b = r' at *
  cases r
  · go_enter Tryz.func45, Tryz.ntmps45
    go_wp2_with (first | ((with_reducible refine (HR.out _ h).mono ?_); rintro x w1 ⟨rfl, hE1⟩))
    go_ret
    exact ⟨rfl, hE1⟩
  · cases r'
    · go_enter Tryz.func45, Tryz.ntmps45
      go_wp2_with (first | ((with_reducible refine (HR.out _ h).mono ?_); rintro x w1 ⟨rfl, hE1⟩) | ((with_reducible refine (HR'.out _ (h'.ev hE1)).mono ?_); rintro x w2 ⟨rfl, hE2⟩))
      go_ret
      exact ⟨rfl, hE1.trans hE2⟩
    · simp only [Bool.and_self, if_true]
      have HO := Lib.hid (ho rfl)
      have HO' := Lib.hid (ho' rfl)
      clear ho ho'
      go_enter Tryz.func45, Tryz.ntmps45
      go_wp2_with (first | ((with_reducible refine (HR.out _ h).mono ?_); rintro x w1 ⟨rfl, hE1⟩) | ((with_reducible refine (HR'.out _ (h'.ev hE1)).mono ?_); rintro x w2 ⟨rfl, hE2⟩))
      have hE0 := hE1.trans hE2
      go_loopw [5] (fun i wr => ∃ k : Nat, k ≤ n ∧ k ≤ m ∧ i = .int .i64 k ∧ Hid (a.take k = b.take k) ∧ Ev w wr) (fun i _ => n - (intOf i).toNat)
      case atStart => exact ⟨0, Nat.zero_le _, Nat.zero_le _, rfl, Lib.hid (by simp), hE0⟩
      case round =>
        obtain ⟨k, hk, hk', rfl, HT, hE⟩ := hrel
        by_cases ha : k < n
        · have i2 : (k : Int) < (n : Int) := by omega
          by_cases hb : k < m
          · have i3 : (k : Int) < (m : Int) := by omega
            obtain ⟨b1, off, ⟨xk, xn, xs⟩, rfl, hb1, hx, c0, c1, c2⟩ := (h.ev hE).vcell ha
            obtain ⟨b2, off', ⟨yk, yn, ys⟩, rfl, hb2, hy, d0, d1, d2⟩ := (h'.ev hE).vcell hb
            have i1 : (0 : Int) ≤ (k : Int) := by omega
            simp only at c0 c1 c2 d0 d1 d2
            have HX := Lib.hid hx
            have HY := Lib.hid hy
            obtain ⟨x, hlx⟩ : ∃ x, lessV xk xn xs yk yn ys = x := ⟨_, rfl⟩
            obtain ⟨y, hly⟩ : ∃ y, lessV yk yn ys xk xn xs = y := ⟨_, rfl⟩
            have HLX := Lib.hid hlx
            have HLY := Lib.hid hly
            clear hx hy hlx hly
            cases x
            · cases y
              · have HQ : Hid (a.take (k + 1) = b.take (k + 1)) := Lib.hid (by
                  by_cases e : (xk, xn, xs) = (yk, yn, ys)
                  · exact take_step HT.out HX.out (e ▸ HY.out)
                  · have := lessVV_tri (okR_at HO.out HX.out) (okR_at HO'.out HY.out) e
                    rw [show lessVV (xk, xn, xs) (yk, yn, ys) = false from HLX.out, show lessVV (yk, yn, ys) (xk, xn, xs) = false from HLY.out] at this
                    cases this)
                go_wp2_with fail
                refine wp_region_slots hmix [fun v _ => v = .slice (some ⟨b1, off, none⟩) n cap, fun v _ => v = .int .i64 (k : Int), fun v _ => v = .pointer (some ⟨b1, off + k * 3, none⟩), fun v _ => v = vv xk xn xs, fun v _ => v = .slice (some ⟨b2, off', none⟩) m cap', fun v _ => v = .int .i64 (k : Int), fun v _ => v = .pointer (some ⟨b2, off' + k * 3, none⟩), fun v _ => v = vv yk yn ys, fun v _ => v = .bool false]
                  49 rfl (by kernel_rfl) ⟨mono_eq _, mono_eq _, mono_eq _, mono_eq _, mono_eq _, mono_eq _, mono_eq _, mono_eq _, mono_eq _, trivial⟩ ?_ ?_
                · refine ops_cons 0 ?_ (ops_cons 1 ?_ (ops_cons 2 ?_ (ops_cons 3 ?_ (ops_cons 4 ?_ (ops_cons 5 ?_ (ops_cons 6 ?_ (ops_cons 7 ?_ (ops_cons 8 ?_ (ops_nil 9)))))))))
                  · refine op_value fun a w c => ⟨(wanted_plain rfl), _, run_move _ rfl w, (c.was 0 (by kernel_rfl) rfl)⟩
                  · refine op_value fun a w c => ⟨(wanted_plain rfl), _, run_move _ rfl w, (c.was 5 (by kernel_rfl) rfl)⟩
                  · refine op_value fun a w c => ⟨(wanted_plain rfl), .pointer (some ⟨b1, off + k * 3, none⟩), ?_, rfl⟩
                    have e26 : a.eval (.tmp 26) = .slice (some ⟨b1, off, none⟩) n cap := (c.new 0 26 (by kernel_rfl) (by kernel_rfl))
                    have e27 : a.eval (.tmp 27) = .int .i64 (k : Int) := (c.new 1 27 (by kernel_rfl) (by kernel_rfl))
                    generalize a.eval = ρ at e26 e27 ⊢
                    simp [execOp, e26, e27, go_sem, i1, i2]
                  · refine op_value fun a w c => ⟨(wanted_plain rfl), _, run_load_elem rfl ((c.new 2 28 (by kernel_rfl) (by kernel_rfl)) : a.eval (.tmp 28) = .pointer (some ⟨b1, off + k * 3, none⟩)) ((c.ev.cell (p := ⟨_, _, none⟩) hb1).trans c0) ((c.ev.cell (p := ⟨_, _, none⟩) hb1).trans c1) ((c.ev.cell (p := ⟨_, _, none⟩) hb1).trans c2), rfl⟩
                  · refine op_value fun a w c => ⟨(wanted_plain rfl), _, run_move _ rfl w, (c.was 1 (by kernel_rfl) rfl)⟩
                  · refine op_value fun a w c => ⟨(wanted_plain rfl), _, run_move _ rfl w, (c.was 5 (by kernel_rfl) rfl)⟩
                  · refine op_value fun a w c => ⟨(wanted_plain rfl), .pointer (some ⟨b2, off' + k * 3, none⟩), ?_, rfl⟩
                    have e30 : a.eval (.tmp 30) = .slice (some ⟨b2, off', none⟩) m cap' := (c.new 4 30 (by kernel_rfl) (by kernel_rfl))
                    have e31 : a.eval (.tmp 31) = .int .i64 (k : Int) := (c.new 5 31 (by kernel_rfl) (by kernel_rfl))
                    generalize a.eval = ρ at e30 e31 ⊢
                    simp [execOp, e30, e31, go_sem, i1, i3]
                  · refine op_value fun a w c => ⟨(wanted_plain rfl), _, run_load_elem rfl ((c.new 6 32 (by kernel_rfl) (by kernel_rfl)) : a.eval (.tmp 32) = .pointer (some ⟨b2, off' + k * 3, none⟩)) ((c.ev.cell (p := ⟨_, _, none⟩) hb2).trans d0) ((c.ev.cell (p := ⟨_, _, none⟩) hb2).trans d1) ((c.ev.cell (p := ⟨_, _, none⟩) hb2).trans d2), rfl⟩
                  · refine op_call fun a w c => ⟨(wanted_plain rfl), 80, #[vv xk xn xs, vv yk yn ys], ?_, ?_⟩
                    · rw [run_call 80 _ _ rfl (by kernel_rfl)]
                      have e29 : a.eval (.tmp 29) = vv xk xn xs := (c.new 3 29 (by kernel_rfl) (by kernel_rfl))
                      have e33 : a.eval (.tmp 33) = vv yk yn ys := (c.new 7 33 (by kernel_rfl) (by kernel_rfl))
                      simp [e29, e33]
                    · refine (refr_less _ _ _ _ _ _ w).mono ?_
                      rintro e w2 ⟨rfl, hE⟩
                      exact ⟨_, rfl, hE, congrArg Value.bool HLX.out⟩
                intro s w4 hEr hold hnew
                have f0 : s 0 = .slice (some ⟨b1, off, none⟩) n cap := hold 0 (by kernel_rfl)
                have f1 : s 1 = .slice (some ⟨b2, off', none⟩) m cap' := hold 1 (by kernel_rfl)
                have f2 : s 2 = undef := hold 2 (by kernel_rfl)
                have f3 : s 3 = undef := hold 3 (by kernel_rfl)
                have f5 : s 5 = .int .i64 (k : Int) := hold 5 (by kernel_rfl)
                have f6 : s 6 = .slice (some ⟨b1, off, none⟩) n cap := hold 6 (by kernel_rfl)
                have f7 : s 7 = .bool true := hold 7 (by kernel_rfl)
                have f8 : s 8 = .bool false := hold 8 (by kernel_rfl)
                have f9 : s 9 = .bool false := hold 9 (by kernel_rfl)
                have f10 : s 10 = .slice (some ⟨b2, off', none⟩) m cap' := hold 10 (by kernel_rfl)
                have f11 : s 11 = .bool true := hold 11 (by kernel_rfl)
                have f12 : s 12 = .bool false := hold 12 (by kernel_rfl)
                have f13 : s 13 = .bool false := hold 13 (by kernel_rfl)
                have f44 : s 44 = undef := hold 44 (by kernel_rfl)
                have f45 : s 45 = undef := hold 45 (by kernel_rfl)
                have f46 : s 46 = undef := hold 46 (by kernel_rfl)
                have f47 : s 47 = undef := hold 47 (by kernel_rfl)
                have f48 : s 48 = undef := hold 48 (by kernel_rfl)
                have f26 : s 26 = .slice (some ⟨b1, off, none⟩) n cap := hnew 0 26 (by kernel_rfl)
                have f27 : s 27 = .int .i64 (k : Int) := hnew 1 27 (by kernel_rfl)
                have f28 : s 28 = .pointer (some ⟨b1, off + k * 3, none⟩) := hnew 2 28 (by kernel_rfl)
                have f29 : s 29 = vv xk xn xs := hnew 3 29 (by kernel_rfl)
                have f30 : s 30 = .slice (some ⟨b2, off', none⟩) m cap' := hnew 4 30 (by kernel_rfl)
                have f31 : s 31 = .int .i64 (k : Int) := hnew 5 31 (by kernel_rfl)
                have f32 : s 32 = .pointer (some ⟨b2, off' + k * 3, none⟩) := hnew 6 32 (by kernel_rfl)
                have f33 : s 33 = vv yk yn ys := hnew 7 33 (by kernel_rfl)
                have f34 : s 34 = .bool false := hnew 8 34 (by kernel_rfl)
                change Exit.then _ _ .normal ⟨#[s 0, s 1, s 2, s 3, s 4, s 5, s 6, s 7, s 8, s 9, s 10, s 11, s 12, s 13, s 14, s 15, s 16, s 17, s 18, s 19, s 20, s 21, s 22, s 23, s 24, s 25, s 26, s 27, s 28, s 29, s 30, s 31, s 32, s 33, s 34, s 35, s 36, s 37, s 38, s 39, s 40, s 41, s 42, s 43, s 44, s 45, s 46, s 47, s 48], _⟩ _
                simp only [f0, f1, f2, f3, f5, f6, f7, f8, f9, f10, f11, f12, f13, f44, f45, f46, f47, f48, f26, f27, f28, f29, f30, f31, f32, f33, f34]
                clear hold hnew
                generalize s 4 = u4
                generalize s 14 = u14
                generalize s 15 = u15
                generalize s 16 = u16
                generalize s 17 = u17
                generalize s 18 = u18
                generalize s 19 = u19
                generalize s 20 = u20
                generalize s 21 = u21
                generalize s 22 = u22
                generalize s 23 = u23
                generalize s 24 = u24
                generalize s 25 = u25
                generalize s 35 = u35
                generalize s 36 = u36
                generalize s 37 = u37
                generalize s 38 = u38
                generalize s 39 = u39
                generalize s 40 = u40
                generalize s 41 = u41
                generalize s 42 = u42
                generalize s 43 = u43
                clear f26 f27 f28 f29 f30 f31 f32 f33
                have hE4 := hE.trans hEr
                replace c0 := (hEr.cell (p := ⟨_, _, none⟩) hb1).trans c0
                replace c1 := (hEr.cell (p := ⟨_, _, none⟩) hb1).trans c1
                replace c2 := (hEr.cell (p := ⟨_, _, none⟩) hb1).trans c2
                replace d0 := (hEr.cell (p := ⟨_, _, none⟩) hb2).trans d0
                replace d1 := (hEr.cell (p := ⟨_, _, none⟩) hb2).trans d1
                replace d2 := (hEr.cell (p := ⟨_, _, none⟩) hb2).trans d2
                replace hb1 := Nat.lt_of_lt_of_le hb1 hEr.size
                replace hb2 := Nat.lt_of_lt_of_le hb2 hEr.size
                go_wp2_with fail
                refine wp_region_slots hmix [fun v _ => v = .slice (some ⟨b2, off', none⟩) m cap', fun v _ => v = .int .i64 (k : Int), fun v _ => v = .pointer (some ⟨b2, off' + k * 3, none⟩), fun v _ => v = vv yk yn ys, fun v _ => v = .slice (some ⟨b1, off, none⟩) n cap, fun v _ => v = .int .i64 (k : Int), fun v _ => v = .pointer (some ⟨b1, off + k * 3, none⟩), fun v _ => v = vv xk xn xs, fun v _ => v = .bool false]
                  49 rfl (by kernel_rfl) ⟨mono_eq _, mono_eq _, mono_eq _, mono_eq _, mono_eq _, mono_eq _, mono_eq _, mono_eq _, mono_eq _, trivial⟩ ?_ ?_
                · refine ops_cons 0 ?_ (ops_cons 1 ?_ (ops_cons 2 ?_ (ops_cons 3 ?_ (ops_cons 4 ?_ (ops_cons 5 ?_ (ops_cons 6 ?_ (ops_cons 7 ?_ (ops_cons 8 ?_ (ops_nil 9)))))))))
                  · refine op_value fun a w c => ⟨(wanted_plain rfl), _, run_move _ rfl w, (c.was 1 (by kernel_rfl) rfl)⟩
                  · refine op_value fun a w c => ⟨(wanted_plain rfl), _, run_move _ rfl w, (c.was 5 (by kernel_rfl) rfl)⟩
                  · refine op_value fun a w c => ⟨(wanted_plain rfl), .pointer (some ⟨b2, off' + k * 3, none⟩), ?_, rfl⟩
                    have e35 : a.eval (.tmp 35) = .slice (some ⟨b2, off', none⟩) m cap' := (c.new 0 35 (by kernel_rfl) (by kernel_rfl))
                    have e36 : a.eval (.tmp 36) = .int .i64 (k : Int) := (c.new 1 36 (by kernel_rfl) (by kernel_rfl))
                    generalize a.eval = ρ at e35 e36 ⊢
                    simp [execOp, e35, e36, go_sem, i1, i3]
                  · refine op_value fun a w c => ⟨(wanted_plain rfl), _, run_load_elem rfl ((c.new 2 37 (by kernel_rfl) (by kernel_rfl)) : a.eval (.tmp 37) = .pointer (some ⟨b2, off' + k * 3, none⟩)) ((c.ev.cell (p := ⟨_, _, none⟩) hb2).trans d0) ((c.ev.cell (p := ⟨_, _, none⟩) hb2).trans d1) ((c.ev.cell (p := ⟨_, _, none⟩) hb2).trans d2), rfl⟩
                  · refine op_value fun a w c => ⟨(wanted_plain rfl), _, run_move _ rfl w, (c.was 0 (by kernel_rfl) rfl)⟩
                  · refine op_value fun a w c => ⟨(wanted_plain rfl), _, run_move _ rfl w, (c.was 5 (by kernel_rfl) rfl)⟩
                  · refine op_value fun a w c => ⟨(wanted_plain rfl), .pointer (some ⟨b1, off + k * 3, none⟩), ?_, rfl⟩
                    have e39 : a.eval (.tmp 39) = .slice (some ⟨b1, off, none⟩) n cap := (c.new 4 39 (by kernel_rfl) (by kernel_rfl))
                    have e40 : a.eval (.tmp 40) = .int .i64 (k : Int) := (c.new 5 40 (by kernel_rfl) (by kernel_rfl))
                    generalize a.eval = ρ at e39 e40 ⊢
                    simp [execOp, e39, e40, go_sem, i1, i2]
                  · refine op_value fun a w c => ⟨(wanted_plain rfl), _, run_load_elem rfl ((c.new 6 41 (by kernel_rfl) (by kernel_rfl)) : a.eval (.tmp 41) = .pointer (some ⟨b1, off + k * 3, none⟩)) ((c.ev.cell (p := ⟨_, _, none⟩) hb1).trans c0) ((c.ev.cell (p := ⟨_, _, none⟩) hb1).trans c1) ((c.ev.cell (p := ⟨_, _, none⟩) hb1).trans c2), rfl⟩
                  · refine op_call fun a w c => ⟨(wanted_plain rfl), 80, #[vv yk yn ys, vv xk xn xs], ?_, ?_⟩
                    · rw [run_call 80 _ _ rfl (by kernel_rfl)]
                      have e38 : a.eval (.tmp 38) = vv yk yn ys := (c.new 3 38 (by kernel_rfl) (by kernel_rfl))
                      have e42 : a.eval (.tmp 42) = vv xk xn xs := (c.new 7 42 (by kernel_rfl) (by kernel_rfl))
                      simp [e38, e42]
                    · refine (refr_less _ _ _ _ _ _ w).mono ?_
                      rintro e w2 ⟨rfl, hE⟩
                      exact ⟨_, rfl, hE, congrArg Value.bool HLY.out⟩
                intro s w5 hEs hold hnew
                have f0 : s 0 = .slice (some ⟨b1, off, none⟩) n cap := hold 0 (by kernel_rfl)
                have f1 : s 1 = .slice (some ⟨b2, off', none⟩) m cap' := hold 1 (by kernel_rfl)
                have f2 : s 2 = undef := hold 2 (by kernel_rfl)
                have f3 : s 3 = undef := hold 3 (by kernel_rfl)
                have f5 : s 5 = .int .i64 (k : Int) := hold 5 (by kernel_rfl)
                have f6 : s 6 = .slice (some ⟨b1, off, none⟩) n cap := hold 6 (by kernel_rfl)
                have f7 : s 7 = .bool true := hold 7 (by kernel_rfl)
                have f8 : s 8 = .bool false := hold 8 (by kernel_rfl)
                have f9 : s 9 = .bool false := hold 9 (by kernel_rfl)
                have f10 : s 10 = .slice (some ⟨b2, off', none⟩) m cap' := hold 10 (by kernel_rfl)
                have f11 : s 11 = .bool true := hold 11 (by kernel_rfl)
                have f12 : s 12 = .bool false := hold 12 (by kernel_rfl)
                have f13 : s 13 = .bool false := hold 13 (by kernel_rfl)
                have f44 : s 44 = undef := hold 44 (by kernel_rfl)
                have f45 : s 45 = undef := hold 45 (by kernel_rfl)
                have f46 : s 46 = undef := hold 46 (by kernel_rfl)
                have f47 : s 47 = undef := hold 47 (by kernel_rfl)
                have f48 : s 48 = undef := hold 48 (by kernel_rfl)
                have f35 : s 35 = .slice (some ⟨b2, off', none⟩) m cap' := hnew 0 35 (by kernel_rfl)
                have f36 : s 36 = .int .i64 (k : Int) := hnew 1 36 (by kernel_rfl)
                have f37 : s 37 = .pointer (some ⟨b2, off' + k * 3, none⟩) := hnew 2 37 (by kernel_rfl)
                have f38 : s 38 = vv yk yn ys := hnew 3 38 (by kernel_rfl)
                have f39 : s 39 = .slice (some ⟨b1, off, none⟩) n cap := hnew 4 39 (by kernel_rfl)
                have f40 : s 40 = .int .i64 (k : Int) := hnew 5 40 (by kernel_rfl)
                have f41 : s 41 = .pointer (some ⟨b1, off + k * 3, none⟩) := hnew 6 41 (by kernel_rfl)
                have f42 : s 42 = vv xk xn xs := hnew 7 42 (by kernel_rfl)
                have f43 : s 43 = .bool false := hnew 8 43 (by kernel_rfl)
                change Exit.then _ _ .normal ⟨#[s 0, s 1, s 2, s 3, s 4, s 5, s 6, s 7, s 8, s 9, s 10, s 11, s 12, s 13, s 14, s 15, s 16, s 17, s 18, s 19, s 20, s 21, s 22, s 23, s 24, s 25, s 26, s 27, s 28, s 29, s 30, s 31, s 32, s 33, s 34, s 35, s 36, s 37, s 38, s 39, s 40, s 41, s 42, s 43, s 44, s 45, s 46, s 47, s 48], _⟩ _
                simp only [f0, f1, f2, f3, f5, f6, f7, f8, f9, f10, f11, f12, f13, f44, f45, f46, f47, f48, f35, f36, f37, f38, f39, f40, f41, f42, f43]
                clear hold hnew
                generalize s 4 = u4
                generalize s 14 = u14
                generalize s 15 = u15
                generalize s 16 = u16
                generalize s 17 = u17
                generalize s 18 = u18
                generalize s 19 = u19
                generalize s 20 = u20
                generalize s 21 = u21
                generalize s 22 = u22
                generalize s 23 = u23
                generalize s 24 = u24
                generalize s 25 = u25
                generalize s 26 = u26
                generalize s 27 = u27
                generalize s 28 = u28
                generalize s 29 = u29
                generalize s 30 = u30
                generalize s 31 = u31
                generalize s 32 = u32
                generalize s 33 = u33
                generalize s 34 = u34
                go_wp2
                go_roundw
                case rel => exact ⟨k + 1, by omega, by omega, by go_num, HQ, hE4.trans hEs⟩
                case measure => simp [intOf]; omega
              · have HF : Hid (lessL a b = false) := Lib.hid (by
                  rw [lessL_at HT.out HX.out HY.out (fun e => by have h1 := HLY.out; rw [show lessV yk yn ys xk xn xs = lessVV (yk, yn, ys) (xk, xn, xs) from rfl, e, lessVV_self] at h1; cases h1)]
                  exact HLX.out)
                go_wp2_with fail
                refine wp_region_slots hmix [fun v _ => v = .slice (some ⟨b1, off, none⟩) n cap, fun v _ => v = .int .i64 (k : Int), fun v _ => v = .pointer (some ⟨b1, off + k * 3, none⟩), fun v _ => v = vv xk xn xs, fun v _ => v = .slice (some ⟨b2, off', none⟩) m cap', fun v _ => v = .int .i64 (k : Int), fun v _ => v = .pointer (some ⟨b2, off' + k * 3, none⟩), fun v _ => v = vv yk yn ys, fun v _ => v = .bool false]
                  49 rfl (by kernel_rfl) ⟨mono_eq _, mono_eq _, mono_eq _, mono_eq _, mono_eq _, mono_eq _, mono_eq _, mono_eq _, mono_eq _, trivial⟩ ?_ ?_
                · refine ops_cons 0 ?_ (ops_cons 1 ?_ (ops_cons 2 ?_ (ops_cons 3 ?_ (ops_cons 4 ?_ (ops_cons 5 ?_ (ops_cons 6 ?_ (ops_cons 7 ?_ (ops_cons 8 ?_ (ops_nil 9)))))))))
                  · refine op_value fun a w c => ⟨(wanted_plain rfl), _, run_move _ rfl w, (c.was 0 (by kernel_rfl) rfl)⟩
                  · refine op_value fun a w c => ⟨(wanted_plain rfl), _, run_move _ rfl w, (c.was 5 (by kernel_rfl) rfl)⟩
                  · refine op_value fun a w c => ⟨(wanted_plain rfl), .pointer (some ⟨b1, off + k * 3, none⟩), ?_, rfl⟩
                    have e26 : a.eval (.tmp 26) = .slice (some ⟨b1, off, none⟩) n cap := (c.new 0 26 (by kernel_rfl) (by kernel_rfl))
                    have e27 : a.eval (.tmp 27) = .int .i64 (k : Int) := (c.new 1 27 (by kernel_rfl) (by kernel_rfl))
                    generalize a.eval = ρ at e26 e27 ⊢
                    simp [execOp, e26, e27, go_sem, i1, i2]
                  · refine op_value fun a w c => ⟨(wanted_plain rfl), _, run_load_elem rfl ((c.new 2 28 (by kernel_rfl) (by kernel_rfl)) : a.eval (.tmp 28) = .pointer (some ⟨b1, off + k * 3, none⟩)) ((c.ev.cell (p := ⟨_, _, none⟩) hb1).trans c0) ((c.ev.cell (p := ⟨_, _, none⟩) hb1).trans c1) ((c.ev.cell (p := ⟨_, _, none⟩) hb1).trans c2), rfl⟩
                  · refine op_value fun a w c => ⟨(wanted_plain rfl), _, run_move _ rfl w, (c.was 1 (by kernel_rfl) rfl)⟩
                  · refine op_value fun a w c => ⟨(wanted_plain rfl), _, run_move _ rfl w, (c.was 5 (by kernel_rfl) rfl)⟩
                  · refine op_value fun a w c => ⟨(wanted_plain rfl), .pointer (some ⟨b2, off' + k * 3, none⟩), ?_, rfl⟩
                    have e30 : a.eval (.tmp 30) = .slice (some ⟨b2, off', none⟩) m cap' := (c.new 4 30 (by kernel_rfl) (by kernel_rfl))
                    have e31 : a.eval (.tmp 31) = .int .i64 (k : Int) := (c.new 5 31 (by kernel_rfl) (by kernel_rfl))
                    generalize a.eval = ρ at e30 e31 ⊢
                    simp [execOp, e30, e31, go_sem, i1, i3]
                  · refine op_value fun a w c => ⟨(wanted_plain rfl), _, run_load_elem rfl ((c.new 6 32 (by kernel_rfl) (by kernel_rfl)) : a.eval (.tmp 32) = .pointer (some ⟨b2, off' + k * 3, none⟩)) ((c.ev.cell (p := ⟨_, _, none⟩) hb2).trans d0) ((c.ev.cell (p := ⟨_, _, none⟩) hb2).trans d1) ((c.ev.cell (p := ⟨_, _, none⟩) hb2).trans d2), rfl⟩
                  · refine op_call fun a w c => ⟨(wanted_plain rfl), 80, #[vv xk xn xs, vv yk yn ys], ?_, ?_⟩
                    · rw [run_call 80 _ _ rfl (by kernel_rfl)]
                      have e29 : a.eval (.tmp 29) = vv xk xn xs := (c.new 3 29 (by kernel_rfl) (by kernel_rfl))
                      have e33 : a.eval (.tmp 33) = vv yk yn ys := (c.new 7 33 (by kernel_rfl) (by kernel_rfl))
                      simp [e29, e33]
                    · refine (refr_less _ _ _ _ _ _ w).mono ?_
                      rintro e w2 ⟨rfl, hE⟩
                      exact ⟨_, rfl, hE, congrArg Value.bool HLX.out⟩
                intro s w4 hEr hold hnew
                have f0 : s 0 = .slice (some ⟨b1, off, none⟩) n cap := hold 0 (by kernel_rfl)
                have f1 : s 1 = .slice (some ⟨b2, off', none⟩) m cap' := hold 1 (by kernel_rfl)
                have f2 : s 2 = undef := hold 2 (by kernel_rfl)
                have f3 : s 3 = undef := hold 3 (by kernel_rfl)
                have f5 : s 5 = .int .i64 (k : Int) := hold 5 (by kernel_rfl)
                have f6 : s 6 = .slice (some ⟨b1, off, none⟩) n cap := hold 6 (by kernel_rfl)
                have f7 : s 7 = .bool true := hold 7 (by kernel_rfl)
                have f8 : s 8 = .bool false := hold 8 (by kernel_rfl)
                have f9 : s 9 = .bool false := hold 9 (by kernel_rfl)
                have f10 : s 10 = .slice (some ⟨b2, off', none⟩) m cap' := hold 10 (by kernel_rfl)
                have f11 : s 11 = .bool true := hold 11 (by kernel_rfl)
                have f12 : s 12 = .bool false := hold 12 (by kernel_rfl)
                have f13 : s 13 = .bool false := hold 13 (by kernel_rfl)
                have f44 : s 44 = undef := hold 44 (by kernel_rfl)
                have f45 : s 45 = undef := hold 45 (by kernel_rfl)
                have f46 : s 46 = undef := hold 46 (by kernel_rfl)
                have f47 : s 47 = undef := hold 47 (by kernel_rfl)
                have f48 : s 48 = undef := hold 48 (by kernel_rfl)
                have f26 : s 26 = .slice (some ⟨b1, off, none⟩) n cap := hnew 0 26 (by kernel_rfl)
                have f27 : s 27 = .int .i64 (k : Int) := hnew 1 27 (by kernel_rfl)
                have f28 : s 28 = .pointer (some ⟨b1, off + k * 3, none⟩) := hnew 2 28 (by kernel_rfl)
                have f29 : s 29 = vv xk xn xs := hnew 3 29 (by kernel_rfl)
                have f30 : s 30 = .slice (some ⟨b2, off', none⟩) m cap' := hnew 4 30 (by kernel_rfl)
                have f31 : s 31 = .int .i64 (k : Int) := hnew 5 31 (by kernel_rfl)
                have f32 : s 32 = .pointer (some ⟨b2, off' + k * 3, none⟩) := hnew 6 32 (by kernel_rfl)
                have f33 : s 33 = vv yk yn ys := hnew 7 33 (by kernel_rfl)
                have f34 : s 34 = .bool false := hnew 8 34 (by kernel_rfl)
                change Exit.then _ _ .normal ⟨#[s 0, s 1, s 2, s 3, s 4, s 5, s 6, s 7, s 8, s 9, s 10, s 11, s 12, s 13, s 14, s 15, s 16, s 17, s 18, s 19, s 20, s 21, s 22, s 23, s 24, s 25, s 26, s 27, s 28, s 29, s 30, s 31, s 32, s 33, s 34, s 35, s 36, s 37, s 38, s 39, s 40, s 41, s 42, s 43, s 44, s 45, s 46, s 47, s 48], _⟩ _
                simp only [f0, f1, f2, f3, f5, f6, f7, f8, f9, f10, f11, f12, f13, f44, f45, f46, f47, f48, f26, f27, f28, f29, f30, f31, f32, f33, f34]
                clear hold hnew
                generalize s 4 = u4
                generalize s 14 = u14
                generalize s 15 = u15
                generalize s 16 = u16
                generalize s 17 = u17
                generalize s 18 = u18
                generalize s 19 = u19
                generalize s 20 = u20
                generalize s 21 = u21
                generalize s 22 = u22
                generalize s 23 = u23
                generalize s 24 = u24
                generalize s 25 = u25
                generalize s 35 = u35
                generalize s 36 = u36
                generalize s 37 = u37
                generalize s 38 = u38
                generalize s 39 = u39
                generalize s 40 = u40
                generalize s 41 = u41
                generalize s 42 = u42
                generalize s 43 = u43
                clear f26 f27 f28 f29 f30 f31 f32 f33
                have hE4 := hE.trans hEr
                replace c0 := (hEr.cell (p := ⟨_, _, none⟩) hb1).trans c0
                replace c1 := (hEr.cell (p := ⟨_, _, none⟩) hb1).trans c1
                replace c2 := (hEr.cell (p := ⟨_, _, none⟩) hb1).trans c2
                replace d0 := (hEr.cell (p := ⟨_, _, none⟩) hb2).trans d0
                replace d1 := (hEr.cell (p := ⟨_, _, none⟩) hb2).trans d1
                replace d2 := (hEr.cell (p := ⟨_, _, none⟩) hb2).trans d2
                replace hb1 := Nat.lt_of_lt_of_le hb1 hEr.size
                replace hb2 := Nat.lt_of_lt_of_le hb2 hEr.size
                go_wp2_with fail
                refine wp_region_slots hmix [fun v _ => v = .slice (some ⟨b2, off', none⟩) m cap', fun v _ => v = .int .i64 (k : Int), fun v _ => v = .pointer (some ⟨b2, off' + k * 3, none⟩), fun v _ => v = vv yk yn ys, fun v _ => v = .slice (some ⟨b1, off, none⟩) n cap, fun v _ => v = .int .i64 (k : Int), fun v _ => v = .pointer (some ⟨b1, off + k * 3, none⟩), fun v _ => v = vv xk xn xs, fun v _ => v = .bool true]
                  49 rfl (by kernel_rfl) ⟨mono_eq _, mono_eq _, mono_eq _, mono_eq _, mono_eq _, mono_eq _, mono_eq _, mono_eq _, mono_eq _, trivial⟩ ?_ ?_
                · refine ops_cons 0 ?_ (ops_cons 1 ?_ (ops_cons 2 ?_ (ops_cons 3 ?_ (ops_cons 4 ?_ (ops_cons 5 ?_ (ops_cons 6 ?_ (ops_cons 7 ?_ (ops_cons 8 ?_ (ops_nil 9)))))))))
                  · refine op_value fun a w c => ⟨(wanted_plain rfl), _, run_move _ rfl w, (c.was 1 (by kernel_rfl) rfl)⟩
                  · refine op_value fun a w c => ⟨(wanted_plain rfl), _, run_move _ rfl w, (c.was 5 (by kernel_rfl) rfl)⟩
                  · refine op_value fun a w c => ⟨(wanted_plain rfl), .pointer (some ⟨b2, off' + k * 3, none⟩), ?_, rfl⟩
                    have e35 : a.eval (.tmp 35) = .slice (some ⟨b2, off', none⟩) m cap' := (c.new 0 35 (by kernel_rfl) (by kernel_rfl))
                    have e36 : a.eval (.tmp 36) = .int .i64 (k : Int) := (c.new 1 36 (by kernel_rfl) (by kernel_rfl))
                    generalize a.eval = ρ at e35 e36 ⊢
                    simp [execOp, e35, e36, go_sem, i1, i3]
                  · refine op_value fun a w c => ⟨(wanted_plain rfl), _, run_load_elem rfl ((c.new 2 37 (by kernel_rfl) (by kernel_rfl)) : a.eval (.tmp 37) = .pointer (some ⟨b2, off' + k * 3, none⟩)) ((c.ev.cell (p := ⟨_, _, none⟩) hb2).trans d0) ((c.ev.cell (p := ⟨_, _, none⟩) hb2).trans d1) ((c.ev.cell (p := ⟨_, _, none⟩) hb2).trans d2), rfl⟩
                  · refine op_value fun a w c => ⟨(wanted_plain rfl), _, run_move _ rfl w, (c.was 0 (by kernel_rfl) rfl)⟩
                  · refine op_value fun a w c => ⟨(wanted_plain rfl), _, run_move _ rfl w, (c.was 5 (by kernel_rfl) rfl)⟩
                  · refine op_value fun a w c => ⟨(wanted_plain rfl), .pointer (some ⟨b1, off + k * 3, none⟩), ?_, rfl⟩
                    have e39 : a.eval (.tmp 39) = .slice (some ⟨b1, off, none⟩) n cap := (c.new 4 39 (by kernel_rfl) (by kernel_rfl))
                    have e40 : a.eval (.tmp 40) = .int .i64 (k : Int) := (c.new 5 40 (by kernel_rfl) (by kernel_rfl))
                    generalize a.eval = ρ at e39 e40 ⊢
                    simp [execOp, e39, e40, go_sem, i1, i2]
                  · refine op_value fun a w c => ⟨(wanted_plain rfl), _, run_load_elem rfl ((c.new 6 41 (by kernel_rfl) (by kernel_rfl)) : a.eval (.tmp 41) = .pointer (some ⟨b1, off + k * 3, none⟩)) ((c.ev.cell (p := ⟨_, _, none⟩) hb1).trans c0) ((c.ev.cell (p := ⟨_, _, none⟩) hb1).trans c1) ((c.ev.cell (p := ⟨_, _, none⟩) hb1).trans c2), rfl⟩
                  · refine op_call fun a w c => ⟨(wanted_plain rfl), 80, #[vv yk yn ys, vv xk xn xs], ?_, ?_⟩
                    · rw [run_call 80 _ _ rfl (by kernel_rfl)]
                      have e38 : a.eval (.tmp 38) = vv yk yn ys := (c.new 3 38 (by kernel_rfl) (by kernel_rfl))
                      have e42 : a.eval (.tmp 42) = vv xk xn xs := (c.new 7 42 (by kernel_rfl) (by kernel_rfl))
                      simp [e38, e42]
                    · refine (refr_less _ _ _ _ _ _ w).mono ?_
                      rintro e w2 ⟨rfl, hE⟩
                      exact ⟨_, rfl, hE, congrArg Value.bool HLY.out⟩
                intro s w5 hEs hold hnew
                have f0 : s 0 = .slice (some ⟨b1, off, none⟩) n cap := hold 0 (by kernel_rfl)
                have f1 : s 1 = .slice (some ⟨b2, off', none⟩) m cap' := hold 1 (by kernel_rfl)
                have f2 : s 2 = undef := hold 2 (by kernel_rfl)
                have f3 : s 3 = undef := hold 3 (by kernel_rfl)
                have f5 : s 5 = .int .i64 (k : Int) := hold 5 (by kernel_rfl)
                have f6 : s 6 = .slice (some ⟨b1, off, none⟩) n cap := hold 6 (by kernel_rfl)
                have f7 : s 7 = .bool true := hold 7 (by kernel_rfl)
                have f8 : s 8 = .bool false := hold 8 (by kernel_rfl)
                have f9 : s 9 = .bool false := hold 9 (by kernel_rfl)
                have f10 : s 10 = .slice (some ⟨b2, off', none⟩) m cap' := hold 10 (by kernel_rfl)
                have f11 : s 11 = .bool true := hold 11 (by kernel_rfl)
                have f12 : s 12 = .bool false := hold 12 (by kernel_rfl)
                have f13 : s 13 = .bool false := hold 13 (by kernel_rfl)
                have f44 : s 44 = undef := hold 44 (by kernel_rfl)
                have f45 : s 45 = undef := hold 45 (by kernel_rfl)
                have f46 : s 46 = undef := hold 46 (by kernel_rfl)
                have f47 : s 47 = undef := hold 47 (by kernel_rfl)
                have f48 : s 48 = undef := hold 48 (by kernel_rfl)
                have f35 : s 35 = .slice (some ⟨b2, off', none⟩) m cap' := hnew 0 35 (by kernel_rfl)
                have f36 : s 36 = .int .i64 (k : Int) := hnew 1 36 (by kernel_rfl)
                have f37 : s 37 = .pointer (some ⟨b2, off' + k * 3, none⟩) := hnew 2 37 (by kernel_rfl)
                have f38 : s 38 = vv yk yn ys := hnew 3 38 (by kernel_rfl)
                have f39 : s 39 = .slice (some ⟨b1, off, none⟩) n cap := hnew 4 39 (by kernel_rfl)
                have f40 : s 40 = .int .i64 (k : Int) := hnew 5 40 (by kernel_rfl)
                have f41 : s 41 = .pointer (some ⟨b1, off + k * 3, none⟩) := hnew 6 41 (by kernel_rfl)
                have f42 : s 42 = vv xk xn xs := hnew 7 42 (by kernel_rfl)
                have f43 : s 43 = .bool true := hnew 8 43 (by kernel_rfl)
                change Exit.then _ _ .normal ⟨#[s 0, s 1, s 2, s 3, s 4, s 5, s 6, s 7, s 8, s 9, s 10, s 11, s 12, s 13, s 14, s 15, s 16, s 17, s 18, s 19, s 20, s 21, s 22, s 23, s 24, s 25, s 26, s 27, s 28, s 29, s 30, s 31, s 32, s 33, s 34, s 35, s 36, s 37, s 38, s 39, s 40, s 41, s 42, s 43, s 44, s 45, s 46, s 47, s 48], _⟩ _
                simp only [f0, f1, f2, f3, f5, f6, f7, f8, f9, f10, f11, f12, f13, f44, f45, f46, f47, f48, f35, f36, f37, f38, f39, f40, f41, f42, f43]
                clear hold hnew
                go_wp2
                go_ret
                exact ⟨by rw [HF.out]; rfl, hE4.trans hEs⟩
            · have HF : Hid (lessL a b = true) := Lib.hid (by
                rw [lessL_at HT.out HX.out HY.out (lessVV_ne HLX.out)]
                exact HLX.out)
              go_wp2_with fail
              refine wp_region_slots hmix [fun v _ => v = .slice (some ⟨b1, off, none⟩) n cap, fun v _ => v = .int .i64 (k : Int), fun v _ => v = .pointer (some ⟨b1, off + k * 3, none⟩), fun v _ => v = vv xk xn xs, fun v _ => v = .slice (some ⟨b2, off', none⟩) m cap', fun v _ => v = .int .i64 (k : Int), fun v _ => v = .pointer (some ⟨b2, off' + k * 3, none⟩), fun v _ => v = vv yk yn ys, fun v _ => v = .bool true]
                49 rfl (by kernel_rfl) ⟨mono_eq _, mono_eq _, mono_eq _, mono_eq _, mono_eq _, mono_eq _, mono_eq _, mono_eq _, mono_eq _, trivial⟩ ?_ ?_
              · refine ops_cons 0 ?_ (ops_cons 1 ?_ (ops_cons 2 ?_ (ops_cons 3 ?_ (ops_cons 4 ?_ (ops_cons 5 ?_ (ops_cons 6 ?_ (ops_cons 7 ?_ (ops_cons 8 ?_ (ops_nil 9)))))))))
                · refine op_value fun a w c => ⟨(wanted_plain rfl), _, run_move _ rfl w, (c.was 0 (by kernel_rfl) rfl)⟩
                · refine op_value fun a w c => ⟨(wanted_plain rfl), _, run_move _ rfl w, (c.was 5 (by kernel_rfl) rfl)⟩
                · refine op_value fun a w c => ⟨(wanted_plain rfl), .pointer (some ⟨b1, off + k * 3, none⟩), ?_, rfl⟩
                  have e26 : a.eval (.tmp 26) = .slice (some ⟨b1, off, none⟩) n cap := (c.new 0 26 (by kernel_rfl) (by kernel_rfl))
                  have e27 : a.eval (.tmp 27) = .int .i64 (k : Int) := (c.new 1 27 (by kernel_rfl) (by kernel_rfl))
                  generalize a.eval = ρ at e26 e27 ⊢
                  simp [execOp, e26, e27, go_sem, i1, i2]
                · refine op_value fun a w c => ⟨(wanted_plain rfl), _, run_load_elem rfl ((c.new 2 28 (by kernel_rfl) (by kernel_rfl)) : a.eval (.tmp 28) = .pointer (some ⟨b1, off + k * 3, none⟩)) ((c.ev.cell (p := ⟨_, _, none⟩) hb1).trans c0) ((c.ev.cell (p := ⟨_, _, none⟩) hb1).trans c1) ((c.ev.cell (p := ⟨_, _, none⟩) hb1).trans c2), rfl⟩
                · refine op_value fun a w c => ⟨(wanted_plain rfl), _, run_move _ rfl w, (c.was 1 (by kernel_rfl) rfl)⟩
                · refine op_value fun a w c => ⟨(wanted_plain rfl), _, run_move _ rfl w, (c.was 5 (by kernel_rfl) rfl)⟩
                · refine op_value fun a w c => ⟨(wanted_plain rfl), .pointer (some ⟨b2, off' + k * 3, none⟩), ?_, rfl⟩
                  have e30 : a.eval (.tmp 30) = .slice (some ⟨b2, off', none⟩) m cap' := (c.new 4 30 (by kernel_rfl) (by kernel_rfl))
                  have e31 : a.eval (.tmp 31) = .int .i64 (k : Int) := (c.new 5 31 (by kernel_rfl) (by kernel_rfl))
                  generalize a.eval = ρ at e30 e31 ⊢
                  simp [execOp, e30, e31, go_sem, i1, i3]
                · refine op_value fun a w c => ⟨(wanted_plain rfl), _, run_load_elem rfl ((c.new 6 32 (by kernel_rfl) (by kernel_rfl)) : a.eval (.tmp 32) = .pointer (some ⟨b2, off' + k * 3, none⟩)) ((c.ev.cell (p := ⟨_, _, none⟩) hb2).trans d0) ((c.ev.cell (p := ⟨_, _, none⟩) hb2).trans d1) ((c.ev.cell (p := ⟨_, _, none⟩) hb2).trans d2), rfl⟩
                · refine op_call fun a w c => ⟨(wanted_plain rfl), 80, #[vv xk xn xs, vv yk yn ys], ?_, ?_⟩
                  · rw [run_call 80 _ _ rfl (by kernel_rfl)]
                    have e29 : a.eval (.tmp 29) = vv xk xn xs := (c.new 3 29 (by kernel_rfl) (by kernel_rfl))
                    have e33 : a.eval (.tmp 33) = vv yk yn ys := (c.new 7 33 (by kernel_rfl) (by kernel_rfl))
                    simp [e29, e33]
                  · refine (refr_less _ _ _ _ _ _ w).mono ?_
                    rintro e w2 ⟨rfl, hE⟩
                    exact ⟨_, rfl, hE, congrArg Value.bool HLX.out⟩
              intro s w4 hEr hold hnew
              have f0 : s 0 = .slice (some ⟨b1, off, none⟩) n cap := hold 0 (by kernel_rfl)
              have f1 : s 1 = .slice (some ⟨b2, off', none⟩) m cap' := hold 1 (by kernel_rfl)
              have f2 : s 2 = undef := hold 2 (by kernel_rfl)
              have f3 : s 3 = undef := hold 3 (by kernel_rfl)
              have f5 : s 5 = .int .i64 (k : Int) := hold 5 (by kernel_rfl)
              have f6 : s 6 = .slice (some ⟨b1, off, none⟩) n cap := hold 6 (by kernel_rfl)
              have f7 : s 7 = .bool true := hold 7 (by kernel_rfl)
              have f8 : s 8 = .bool false := hold 8 (by kernel_rfl)
              have f9 : s 9 = .bool false := hold 9 (by kernel_rfl)
              have f10 : s 10 = .slice (some ⟨b2, off', none⟩) m cap' := hold 10 (by kernel_rfl)
              have f11 : s 11 = .bool true := hold 11 (by kernel_rfl)
              have f12 : s 12 = .bool false := hold 12 (by kernel_rfl)
              have f13 : s 13 = .bool false := hold 13 (by kernel_rfl)
              have f44 : s 44 = undef := hold 44 (by kernel_rfl)
              have f45 : s 45 = undef := hold 45 (by kernel_rfl)
              have f46 : s 46 = undef := hold 46 (by kernel_rfl)
              have f47 : s 47 = undef := hold 47 (by kernel_rfl)
              have f48 : s 48 = undef := hold 48 (by kernel_rfl)
              have f26 : s 26 = .slice (some ⟨b1, off, none⟩) n cap := hnew 0 26 (by kernel_rfl)
              have f27 : s 27 = .int .i64 (k : Int) := hnew 1 27 (by kernel_rfl)
              have f28 : s 28 = .pointer (some ⟨b1, off + k * 3, none⟩) := hnew 2 28 (by kernel_rfl)
              have f29 : s 29 = vv xk xn xs := hnew 3 29 (by kernel_rfl)
              have f30 : s 30 = .slice (some ⟨b2, off', none⟩) m cap' := hnew 4 30 (by kernel_rfl)
              have f31 : s 31 = .int .i64 (k : Int) := hnew 5 31 (by kernel_rfl)
              have f32 : s 32 = .pointer (some ⟨b2, off' + k * 3, none⟩) := hnew 6 32 (by kernel_rfl)
              have f33 : s 33 = vv yk yn ys := hnew 7 33 (by kernel_rfl)
              have f34 : s 34 = .bool true := hnew 8 34 (by kernel_rfl)
              change Exit.then _ _ .normal ⟨#[s 0, s 1, s 2, s 3, s 4, s 5, s 6, s 7, s 8, s 9, s 10, s 11, s 12, s 13, s 14, s 15, s 16, s 17, s 18, s 19, s 20, s 21, s 22, s 23, s 24, s 25, s 26, s 27, s 28, s 29, s 30, s 31, s 32, s 33, s 34, s 35, s 36, s 37, s 38, s 39, s 40, s 41, s 42, s 43, s 44, s 45, s 46, s 47, s 48], _⟩ _
              simp only [f0, f1, f2, f3, f5, f6, f7, f8, f9, f10, f11, f12, f13, f44, f45, f46, f47, f48, f26, f27, f28, f29, f30, f31, f32, f33, f34]
              clear hold hnew
              go_wp2
              go_ret
              exact ⟨by rw [HF.out]; rfl, hE.trans hEr⟩
          · have i3 : ¬ (k : Int) < (m : Int) := by omega
            have HF := Lib.hid (lessL_end HT.out (by rw [HL.out]; exact hk) (by rw [HM.out]; exact hk') (.inr (by rw [HM.out]; omega)))
            have e1 : ¬ (n : Int) < (m : Int) := by omega
            have e2 : decide (a.length < b.length) = false := decide_eq_false (by rw [HL.out, HM.out]; omega)
            go_wp2
            go_ret
            exact ⟨by rw [HF.out, e2]; rfl, hE⟩
        · have i2 : ¬ (k : Int) < (n : Int) := by omega
          have HF := Lib.hid (lessL_end HT.out (by rw [HL.out]; exact hk) (by rw [HM.out]; exact hk') (.inl (by rw [HL.out]; omega)))
          have e2 : decide (a.length < b.length) = decide (n < m) := by rw [HL.out, HM.out]
          go_wp2
          go_ret
          exact ⟨by rw [HF.out, e2]; rfl, hE⟩

set_option maxRecDepth 100000 in
set_option maxHeartbeats 4000000 in
theorem ref5_same {A B : Option Addr} {n m cap cap' : Nat} {a b : List V} (w : World) (h : Vs w A n cap a) (h' : Vs w B m cap' b) :
    Calls Tryz.prog 46 #[.slice A n cap, .slice B m cap'] w fun e w' => e = .returned (.bool (sameR a b)) ∧ Ev w w' := by
  have HR := Lib.hid (fun w1 (h1 : Vs w1 A n cap a) => ref5_right w1 h1)
  have HR' := Lib.hid (fun w1 (h1 : Vs w1 B m cap' b) => ref5_right w1 h1)
  have HS := fun w1 (h1 : Vs w1 A n cap a) (h2 : Vs w1 B m cap' b) => ref5_less w1 h1 h2
  have HS' := fun w1 (h1 : Vs w1 A n cap a) (h2 : Vs w1 B m cap' b) => ref5_less w1 h2 h1
  have hfin : rightR a = true → rightR b = true → lessL a b = false → lessL b a = false → decide (n = m) = true := fun h1 h2 h3 h4 => by
    have e := sameR_less (a := a) (b := b)
    rw [h1, h2, h3, h4] at e
    unfold sameR eqL at e
    rw [h1] at e
    simp only [Bool.true_and, Bool.not_false, decide_eq_true_eq] at e
    rw [decide_eq_true_eq, ← h.len, ← h'.len, e]
  rw [sameR_less]
  unfold lessR at HS HS'
  generalize rightR a = r at *
  generalize rightR b = r' at *
  cases r
  · go_enter Tryz.func46, Tryz.ntmps46
    go_wp2_with (first | ((with_reducible refine (HR.out _ h).mono ?_); rintro x w1 ⟨rfl, hE1⟩))
    go_ret
    exact ⟨rfl, hE1⟩
  · cases r'
    · go_enter Tryz.func46, Tryz.ntmps46
      go_wp2_with (first | ((with_reducible refine (HR.out _ h).mono ?_); rintro x w1 ⟨rfl, hE1⟩) | ((with_reducible refine (HR'.out _ (h'.ev hE1)).mono ?_); rintro x w2 ⟨rfl, hE2⟩))
      go_ret
      exact ⟨rfl, hE1.trans hE2⟩
    · simp only [Bool.and_self, if_true] at HS HS'
      have hfin := hfin rfl rfl
      generalize lessL a b = x at *
      generalize lessL b a = y at *
      have HS := Lib.hid HS
      have HS' := Lib.hid HS'
      cases x
      · cases y
        · have hnm : n = m := by simpa using hfin rfl rfl
          clear hfin
          subst hnm
          go_enter Tryz.func46, Tryz.ntmps46
          go_wp2_with (first | ((with_reducible refine (HR.out _ h).mono ?_); rintro x w1 ⟨rfl, hE1⟩) | ((with_reducible refine (HR'.out _ (h'.ev hE1)).mono ?_); rintro x w2 ⟨rfl, hE2⟩) | ((with_reducible refine (HS.out _ (h.ev (hE1.trans hE2)) (h'.ev (hE1.trans hE2))).mono ?_); rintro x w3 ⟨rfl, hE3⟩; have hE := (hE1.trans hE2).trans hE3) | ((with_reducible refine (HS'.out _ (h.ev hE) (h'.ev hE)).mono ?_); rintro x w4 ⟨rfl, hE4⟩))
          go_ret
          exact ⟨rfl, hE.trans hE4⟩
        · clear hfin
          go_enter Tryz.func46, Tryz.ntmps46
          go_wp2_with (first | ((with_reducible refine (HR.out _ h).mono ?_); rintro x w1 ⟨rfl, hE1⟩) | ((with_reducible refine (HR'.out _ (h'.ev hE1)).mono ?_); rintro x w2 ⟨rfl, hE2⟩) | ((with_reducible refine (HS.out _ (h.ev (hE1.trans hE2)) (h'.ev (hE1.trans hE2))).mono ?_); rintro x w3 ⟨rfl, hE3⟩; have hE := (hE1.trans hE2).trans hE3) | ((with_reducible refine (HS'.out _ (h.ev hE) (h'.ev hE)).mono ?_); rintro x w4 ⟨rfl, hE4⟩))
          go_ret
          exact ⟨rfl, hE.trans hE4⟩
      · clear hfin
        go_enter Tryz.func46, Tryz.ntmps46
        go_wp2_with (first | ((with_reducible refine (HR.out _ h).mono ?_); rintro x w1 ⟨rfl, hE1⟩) | ((with_reducible refine (HR'.out _ (h'.ev hE1)).mono ?_); rintro x w2 ⟨rfl, hE2⟩) | ((with_reducible refine (HS.out _ (h.ev (hE1.trans hE2)) (h'.ev (hE1.trans hE2))).mono ?_); rintro x w3 ⟨rfl, hE3⟩; have hE := (hE1.trans hE2).trans hE3))
        go_ret
        exact ⟨rfl, hE⟩

end Go.Proofs.YthpiobkghfdkkaaGreat
