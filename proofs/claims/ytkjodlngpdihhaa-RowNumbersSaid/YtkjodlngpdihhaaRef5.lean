/-
  The document's own Name, Find and Right (chapter 5).
-/
import Derived.Test.YtkjodlngpdihhaaRowN
import Derived.Test.YtkjodlngpdihhaaRefRL
namespace Go.Proofs.Ytkjodlngpdihhaa
open Go.RowKit
set_option linter.unusedVariables false

theorem getD_at5 (s : ByteArray) (k : Nat) (h : k < s.size) : s[k] = s.data.toList.getD k 0 := by
  obtain ⟨⟨l⟩⟩ := s
  have hk : k < l.length := h
  simp [List.getD, hk]
  rfl
theorem word_cells (k : Nat) (hk : k < 23) : (#[.string ⟨#[116, 97, 98, 108, 101]⟩, .string ⟨#[102, 105, 108, 116, 101, 114]⟩, .string ⟨#[112, 114, 111, 106, 101, 99, 116]⟩, .string ⟨#[106, 111, 105, 110]⟩, .string ⟨#[117, 110, 105, 111, 110]⟩, .string ⟨#[100, 105, 115, 116, 105, 110, 99, 116]⟩, .string ⟨#[103, 114, 111, 117, 112]⟩, .string ⟨#[99, 111, 117, 110, 116]⟩, .string ⟨#[115, 117, 109]⟩, .string ⟨#[109, 105, 110]⟩, .string ⟨#[109, 97, 120]⟩, .string ⟨#[97, 100, 100]⟩, .string ⟨#[115, 117, 98]⟩, .string ⟨#[109, 117, 108]⟩, .string ⟨#[110, 101, 103]⟩, .string ⟨#[101, 113]⟩, .string ⟨#[108, 116]⟩, .string ⟨#[97, 110, 100]⟩, .string ⟨#[111, 114]⟩, .string ⟨#[110, 111, 116]⟩, .string ⟨#[99, 97, 116]⟩, .string ⟨#[108, 101, 110]⟩, .string ⟨#[105, 102]⟩] : Array Value)[k]? = some (.string ⟨(words.getD k []).toArray⟩) := by
  have e : (#[.string ⟨#[116, 97, 98, 108, 101]⟩, .string ⟨#[102, 105, 108, 116, 101, 114]⟩, .string ⟨#[112, 114, 111, 106, 101, 99, 116]⟩, .string ⟨#[106, 111, 105, 110]⟩, .string ⟨#[117, 110, 105, 111, 110]⟩, .string ⟨#[100, 105, 115, 116, 105, 110, 99, 116]⟩, .string ⟨#[103, 114, 111, 117, 112]⟩, .string ⟨#[99, 111, 117, 110, 116]⟩, .string ⟨#[115, 117, 109]⟩, .string ⟨#[109, 105, 110]⟩, .string ⟨#[109, 97, 120]⟩, .string ⟨#[97, 100, 100]⟩, .string ⟨#[115, 117, 98]⟩, .string ⟨#[109, 117, 108]⟩, .string ⟨#[110, 101, 103]⟩, .string ⟨#[101, 113]⟩, .string ⟨#[108, 116]⟩, .string ⟨#[97, 110, 100]⟩, .string ⟨#[111, 114]⟩, .string ⟨#[110, 111, 116]⟩, .string ⟨#[99, 97, 116]⟩, .string ⟨#[108, 101, 110]⟩, .string ⟨#[105, 102]⟩] : Array Value) = (words.map fun l => Value.string ⟨l.toArray⟩).toArray := rfl
  have hl : k < words.length := hk
  rw [e, List.getElem?_toArray, List.getElem?_map, List.getElem?_eq_getElem hl, List.getD, List.getElem?_eq_getElem hl]
  rfl
theorem word_in {k : Nat} (hk : k < 23) {x : List UInt8} (h : words.getD k [] = x) : words.contains x = true := by
  have hl : k < words.length := hk
  rw [List.contains_iff_mem, ← h, List.getD, List.getElem?_eq_getElem hl]
  exact List.getElem_mem hl
theorem word_out {x : List UInt8} (h : ∀ i, i < 23 → words.getD i [] ≠ x) : words.contains x = false := by
  cases hc : words.contains x
  · rfl
  · rw [List.contains_iff_mem] at hc
    obtain ⟨i, hi, e⟩ := List.getElem_of_mem hc
    exact absurd (by rw [List.getD, List.getElem?_eq_getElem hi]; exact e) (h i hi)

set_option maxRecDepth 100000 in
set_option maxHeartbeats 4000000 in
theorem ref5_name (s : ByteArray) (w : World) (hs : s.size ≤ maxLen) :
    Calls Try.prog 10 #[.string s] w fun e w' => e = .returned (.bool (nameV s)) ∧ Ev w w' := by
  unfold maxLen at hs
  have hll : s.data.toList.length = s.size := by rw [Array.length_toList]; rfl
  obtain ⟨w0, hw0⟩ : ∃ w0, w0 = w.alloc (.cells #[.string ⟨#[116, 97, 98, 108, 101]⟩, .string ⟨#[102, 105, 108, 116, 101, 114]⟩, .string ⟨#[112, 114, 111, 106, 101, 99, 116]⟩, .string ⟨#[106, 111, 105, 110]⟩, .string ⟨#[117, 110, 105, 111, 110]⟩, .string ⟨#[100, 105, 115, 116, 105, 110, 99, 116]⟩, .string ⟨#[103, 114, 111, 117, 112]⟩, .string ⟨#[99, 111, 117, 110, 116]⟩, .string ⟨#[115, 117, 109]⟩, .string ⟨#[109, 105, 110]⟩, .string ⟨#[109, 97, 120]⟩, .string ⟨#[97, 100, 100]⟩, .string ⟨#[115, 117, 98]⟩, .string ⟨#[109, 117, 108]⟩, .string ⟨#[110, 101, 103]⟩, .string ⟨#[101, 113]⟩, .string ⟨#[108, 116]⟩, .string ⟨#[97, 110, 100]⟩, .string ⟨#[111, 114]⟩, .string ⟨#[110, 111, 116]⟩, .string ⟨#[99, 97, 116]⟩, .string ⟨#[108, 101, 110]⟩, .string ⟨#[105, 102]⟩] 9) := ⟨_, rfl⟩
  have hE0 : Ev w w0 := hw0 ▸ Ev.alloc w _
  obtain ⟨g, hg⟩ : ∃ g, g = w.heap.size := ⟨_, rfl⟩
  have hcell : ∀ k, k < 23 → ∃ X : ByteArray, X.toList = words.getD k [] ∧ w0.cell? ⟨g, k, none⟩ = some (.string X) := fun k hk => by
    refine ⟨⟨(words.getD k []).toArray⟩, by simp, ?_⟩
    rw [hw0, hg, Lib.cell_of_heap (heap_alloc_new w _)]
    exact word_cells k hk
  have HL := Lib.hid hll
  clear hll
  go_enter Try.func10, Try.ntmps10
  go_wp2
  rw [← hw0, ← hg]
  clear hw0 hg
  go_loop [4] (fun i => ∃ k : Nat, k ≤ 23 ∧ i = .int .i64 (k : Int) ∧ Hid (∀ i, i < k → words.getD i [] ≠ s.data.toList)) (fun i => 23 - (intOf i).toNat)
  case atStart => exact ⟨0, Nat.zero_le _, rfl, Lib.hid (fun i hi => by omega)⟩
  case round =>
    obtain ⟨k, hk, rfl, HT⟩ := hrel
    by_cases hlt : k < 23
    · obtain ⟨X, hX, hc⟩ := hcell k hlt
      clear hcell
      cases ht : (X.toList == s.toList)
      · have HF : Hid (∀ i, i < k + 1 → words.getD i [] ≠ s.data.toList) := Lib.hid (fun i hi => by
          by_cases hik : i < k
          · exact HT.out i hik
          · obtain rfl : i = k := by omega
            rw [← hX, ← tl]
            exact beq_eq_false_iff_ne.1 ht)
        clear hX
        go_wp2
        go_round
        case rel => exact ⟨k + 1, by omega, by go_num, HF⟩
        case measure => simp [intOf]; omega
      · have HF : Hid (nameV s = false) := Lib.hid (by
          have h1 : words.contains s.data.toList = true := word_in hlt (by rw [← hX, ← tl]; exact beq_iff_eq.1 ht)
          unfold nameV
          rw [h1]
          simp)
        clear hX
        go_wp2
        go_ret
        exact ⟨by rw [HF.out]; rfl, hE0⟩
    · obtain rfl : k = 23 := by omega
      have HW : Hid (words.contains s.data.toList = false) := Lib.hid (word_out HT.out)
      clear hcell HT
      go_wp2
      go_loop [5] (fun i => ∃ k : Nat, k ≤ s.size ∧ i = .int .i64 (k : Int) ∧ Hid ((s.data.toList.take k).all letterB = true)) (fun i => s.size - (intOf i).toNat)
      case atStart => exact ⟨0, Nat.zero_le _, rfl, Lib.hid rfl⟩
      case round =>
        obtain ⟨k, hk, rfl, HT⟩ := hrel
        by_cases hlt : k < s.size
        · obtain ⟨c, hc⟩ : ∃ c, s[k] = c := ⟨_, rfl⟩
          have hidx : ∀ hh, s[k]'hh = c := fun _ => hc
          have HX := Lib.hid ((getD_at5 s k hlt).symm.trans hc)
          clear hc
          by_cases l1 : 97 ≤ c.toNat
          · have j1 : ¬ ((c.toNat : Int) < 97) := by omega
            by_cases l2 : c.toNat ≤ 122
            · have j2 : ¬ ((122 : Int) < (c.toNat : Int)) := by omega
              have HF : Hid ((s.data.toList.take (k + 1)).all letterB = true) := Lib.hid (by rw [letters_take (by rw [HL.out]; exact hlt) HX.out, HT.out]; unfold letterB; rw [decide_eq_true l1, decide_eq_true l2]; rfl)
              clear l1 l2
              go_wp2
              go_round
              case rel => exact ⟨k + 1, by omega, by go_num, HF⟩
              case measure => simp [intOf]; omega
            · have j2 : (122 : Int) < (c.toNat : Int) := by omega
              have HF : Hid (nameV s = false) := Lib.hid (by
                have h1 := letters_not (by rw [HL.out]; exact hlt) HX.out (show letterB c = false by unfold letterB; rw [decide_eq_false l2]; simp)
                unfold nameV
                rw [h1]
                simp)
              clear l1 l2
              go_wp2
              go_ret
              exact ⟨by rw [HF.out]; rfl, hE0⟩
          · have j1 : (c.toNat : Int) < 97 := by omega
            have HF : Hid (nameV s = false) := Lib.hid (by
              have h1 := letters_not (by rw [HL.out]; exact hlt) HX.out (show letterB c = false by unfold letterB; rw [decide_eq_false l1]; rfl)
              unfold nameV
              rw [h1]
              simp)
            clear l1
            go_wp2
            go_ret
            exact ⟨by rw [HF.out]; rfl, hE0⟩
        · obtain rfl : k = s.size := by omega
          have HF : Hid (nameV s = (decide (1 ≤ s.size) && decide (s.size ≤ 12))) := Lib.hid (by
            have := HT.out
            rw [List.take_of_length_le (by rw [HL.out]; exact Nat.le_refl _)] at this
            unfold nameV
            rw [this, HW.out]
            simp)
          by_cases h1 : 1 ≤ s.size
          · have i1 : (1 : Int) ≤ (s.size : Int) := by omega
            have e : (decide (1 ≤ s.size) && decide (s.size ≤ 12)) = decide ((s.size : Int) ≤ 12) := by rw [decide_eq_true h1, Bool.true_and]; exact decide_eq_decide.2 (by omega)
            have HF2 := Lib.hid (HF.out.trans e)
            clear e HF
            go_wp2
            go_ret
            exact ⟨by rw [HF2.out]; rfl, hE0⟩
          · have i1 : ¬ (1 : Int) ≤ (s.size : Int) := by omega
            have HF2 : Hid (nameV s = false) := Lib.hid (by rw [HF.out, decide_eq_false h1]; rfl)
            clear HF
            go_wp2
            go_ret
            exact ⟨by rw [HF2.out]; rfl, hE0⟩

set_option maxRecDepth 100000 in
set_option maxHeartbeats 4000000 in
theorem ref5_find {A : Option Addr} {n cap : Nat} {l : List C} (s : ByteArray) (w : World) (h : Cs w A n cap l) :
    Calls Try.prog 26 #[.slice A n cap, .string s] w fun e w' => e = .returned (.tuple #[.int .i64 (foundAt (findC l s)), .bool (findC l s).isSome]) ∧ Ev w w' := by
  have hn := h.le
  have hm := h.max
  have HN := Lib.hid h.len
  go_enter Try.func26, Try.ntmps26
  go_wp2
  go_loop [6] (fun i => ∃ k : Nat, k ≤ n ∧ i = .int .i64 k ∧ Hid (∀ i c, i < k → l[i]? = some c → named s c = false)) (fun i => n - (intOf i).toNat)
  case atStart => exact ⟨0, Nat.zero_le _, rfl, Lib.hid (fun i c hi => by omega)⟩
  case round =>
    obtain ⟨k, hk, rfl, HT⟩ := hrel
    by_cases hlt : k < n
    · obtain ⟨b, off, ⟨xs, xk⟩, rfl, hb, hx, c0, c1⟩ := h.ccell hlt
      have HX := Lib.hid hx
      clear hx
      simp only at c0 c1
      cases ht : (xs.toList == s.toList)
      · have HF : Hid (∀ i c, i < k + 1 → l[i]? = some c → named s c = false) := Lib.hid (fun i c hi hc => by
          by_cases hik : i < k
          · exact HT.out i c hik hc
          · obtain rfl : i = k := by omega
            rw [HX.out] at hc
            obtain rfl := Option.some.inj hc
            exact ht)
        go_wp2
        go_round
        case rel => exact ⟨k + 1, by omega, by go_num, HF⟩
        case measure => simp [intOf]; omega
      · have HF := Lib.hid (findC_some HT.out HX.out ht)
        go_wp2
        go_ret2
        exact ⟨by rw [HF.out]; rfl, Ev.refl _⟩
    · obtain rfl : k = n := by omega
      have HF : Hid (findC l s = none) := Lib.hid (findC_none fun i c hi hc => HT.out i c (by rw [HN.out] at hi; exact hi) hc)
      go_wp2
      go_ret2
      exact ⟨by rw [HF.out]; rfl, Ev.refl _⟩

set_option maxRecDepth 100000 in
set_option maxHeartbeats 4000000 in
theorem ref5_right {A : Option Addr} {n cap : Nat} {l : List V} (w : World) (h : Vs w A n cap l) :
    Calls Try.prog 27 #[.slice A n cap] w fun e w' => e = .returned (.bool (rightR l)) ∧ Ev w w' := by
  have hn := h.le
  have hm := h.max
  have HN := Lib.hid h.len
  go_enter Try.func27, Try.ntmps27
  go_wp2
  go_loopw [3] (fun i wr => ∃ k : Nat, k ≤ n ∧ i = .int .i64 k ∧ Hid (okR (l.take k) = true) ∧ Ev w wr) (fun i _ => n - (intOf i).toNat)
  case atStart => exact ⟨0, Nat.zero_le _, rfl, Lib.hid rfl, Ev.refl _⟩
  case round =>
    obtain ⟨k, hk, rfl, HT, hE⟩ := hrel
    by_cases hlt : k < n
    · obtain ⟨b, off, ⟨xk, xn, xs⟩, rfl, hb, hx, c0, c1, c2⟩ := (h.ev hE).vcell hlt
      have HX := Lib.hid hx
      clear hx
      simp only at c0 c1 c2
      have HV := Lib.hid (fun w1 => refr_right xk xn xs w1)
      cases hr : rightV xk xn xs
      · have HF : Hid (rightR l = false) := Lib.hid (by unfold rightR; rw [okR_not HX.out hr]; simp)
        rw [hr] at HV
        go_wp2_with (first | ((with_reducible refine (HV.out _).mono ?_); rintro x w1 ⟨rfl, hE1⟩))
        go_ret
        exact ⟨by rw [HF.out]; rfl, hE.trans hE1⟩
      · have HF : Hid (okR (l.take (k + 1)) = true) := Lib.hid (by rw [okR_take HX.out, HT.out]; exact hr)
        rw [hr] at HV
        go_wp2_with (first | ((with_reducible refine (HV.out _).mono ?_); rintro x w1 ⟨rfl, hE1⟩))
        go_roundw
        case rel => exact ⟨k + 1, by omega, by go_num, HF, hE.trans hE1⟩
        case measure => simp [intOf]; omega
    · obtain rfl : k = n := by omega
      have HF : Hid (rightR l = (decide (1 ≤ k) && decide (k ≤ 6))) := Lib.hid (by
        have := HT.out
        rw [List.take_of_length_le (by rw [HN.out]; exact Nat.le_refl _)] at this
        unfold rightR
        rw [this, HN.out]
        simp)
      by_cases h1 : 1 ≤ k
      · have i1 : (1 : Int) ≤ (k : Int) := by omega
        have e : (decide (1 ≤ k) && decide (k ≤ 6)) = decide ((k : Int) ≤ 6) := by rw [decide_eq_true h1, Bool.true_and]; exact decide_eq_decide.2 (by omega)
        have HF2 := Lib.hid (HF.out.trans e)
        clear e HF
        go_wp2
        go_ret
        exact ⟨by rw [HF2.out]; rfl, hE⟩
      · have i1 : ¬ (1 : Int) ≤ (k : Int) := by omega
        have HF2 : Hid (rightR l = false) := Lib.hid (by rw [HF.out, decide_eq_false h1]; rfl)
        clear HF
        go_wp2
        go_ret
        exact ⟨by rw [HF2.out]; rfl, hE⟩
end Go.Proofs.Ytkjodlngpdihhaa
