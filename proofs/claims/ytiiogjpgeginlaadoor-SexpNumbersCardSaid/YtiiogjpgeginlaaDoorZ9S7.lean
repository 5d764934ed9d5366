/-
  Texts that belong together: The document's own Digits, Quote and Show (chapter 4).
-/
import Derived.BigQuiet
import Derived.Deep.QuietTactic
import Derived.Lib.ItoaLen
import Derived.Test.YtiiogjpgeginlaaDoorZ6S7
import Derived.Test.YtiiogjpgeginlaaDoorZ5S7
namespace Go.Proofs.YtiiogjpgeginlaaDoor
open Go.RowKit
set_option linter.unusedVariables false

/-- The digits of v, none for 0. -/
def dig (v : Nat) : List UInt8 := if v = 0 then [] else Lib.decDigits v
theorem dig_step (v : Nat) : dig (v / 10) ++ [UInt8.ofNat (48 + v % 10)] = Lib.decDigits v := by
  unfold dig
  by_cases h : v < 10
  · rw [if_pos (by omega), Lib.decDigits_one h, show v % 10 = v by omega]
    rfl
  · rw [if_neg (by omega)]
    conv => rhs; rw [Lib.decDigits, dif_neg h]

theorem digit_at (i : Nat) (h : i < 10) : (⟨#[48, 49, 50, 51, 52, 53, 54, 55, 56, 57]⟩ : ByteArray).extract i (i + 1) = ⟨#[UInt8.ofNat (48 + i)]⟩ := by
  rw [Lib.extract_eq]
  have : ∀ i, i < 10 → (((⟨#[48, 49, 50, 51, 52, 53, 54, 55, 56, 57]⟩ : ByteArray).data.toList.drop i).take (i + 1 - i)) = [UInt8.ofNat (48 + i)] := by decide
  rw [this i h]
theorem cat_lists (a b : List UInt8) : (⟨a.toArray⟩ : ByteArray) ++ ⟨b.toArray⟩ = ⟨(a ++ b).toArray⟩ := by
  apply toList_inj
  simp [Lib.toList_data]
def strLen : Value → Nat | .string b => b.size | _ => 0

set_option maxRecDepth 100000 in
set_option maxHeartbeats 1600000 in
theorem refr_digits (n : Int) (w : World) (h0 : -9223372036854775808 ≤ n) (h1 : n ≤ 9223372036854775807) :
    Calls Tryd.prog 28 #[.int .i64 n] w fun e w' => e = .returned (.string ⟨(Lib.itoa n).toArray⟩) ∧ Ev w w' := by
  by_cases hn : n < 0
  · obtain ⟨u, hu⟩ : ∃ u : Nat, n = -(u : Int) := ⟨n.natAbs, by omega⟩
    subst hu
    have hw1 : wrap64 (-(u : Int) + 1) = -(u : Int) + 1 := by unfold wrap64; omega
    have e : Lib.itoa (-(u : Int)) = 45 :: Lib.decDigits u := Lib.itoa_neg u (by omega)
    rw [e]
    clear e
    go_enter Tryd.func28, Tryd.ntmps28
    go_wp2
    have hu9 : u < 18446744073709551616 := by omega
    go_loop [3, 4] (fun x d => ∃ (v : Nat) (l : List UInt8), x = .int .u64 (v : Int) ∧ d = .string ⟨l.toArray⟩ ∧ v < 18446744073709551616 ∧ (l = [] ∧ v = u ∨ l ≠ [] ∧ dig v ++ l = Lib.decDigits u)) (fun x d => if strLen d = 0 then 18446744073709551617 else (intOf x).toNat)
    case atStart => exact ⟨u, [], by go_num, rfl, hu9, .inl ⟨rfl, rfl⟩⟩
    case round =>
      obtain ⟨v, l, rfl, rfl, hv, hrel⟩ := hrel
      by_cases hgo : v = 0 ∧ l ≠ []
      · obtain ⟨rfl, hl⟩ := hgo
        have hl2 : dig 0 ++ l = Lib.decDigits u := by
          rcases hrel with ⟨h, _⟩ | ⟨_, h⟩
          · exact absurd h hl
          · exact h
        have hle : l.isEmpty = false := by
          cases l
          · exact absurd rfl hl
          · rfl
        have hl3 : l = Lib.decDigits u := by simpa [dig] using hl2
        have hll : l.length ≤ 21 := by
          have h2 : (Lib.decDigits u).length ≤ 21 := by rw [Lib.decDigits_length]; have := Lib.nDigits_le20 u hu9; omega
          rw [hl3]; exact h2
        have HL := Lib.hid hl3
        clear hl2 hl3 hrel
        go_wp2
        go_ret
        rw [← HL.out]
        exact ⟨congrArg (fun x => Ending.returned (Value.string x)) (cat_lists [45] l), Ev.refl _⟩
      · have hd : Lib.decDigits v ++ l = Lib.decDigits u := by
          rcases hrel with ⟨rfl, rfl⟩ | ⟨h1, h2⟩
          · simp
          · rw [← h2]; unfold dig; rw [if_neg (by intro h; exact hgo ⟨h, h1⟩)]
        rw [← dig_step, List.append_assoc] at hd
        have HD := Lib.hid hd
        have hm : v % 10 < 10 := by omega
        have hll : l.length ≤ 21 := by
          have h1 := congrArg List.length HD.out
          have h2 : (Lib.decDigits u).length ≤ 21 := by rw [Lib.decDigits_length]; have := Lib.nDigits_le20 u hu9; omega
          simp only [List.length_append] at h1
          omega
        have hx := digit_at (v % 10) hm
        have hz : (⟨l.toArray⟩ : ByteArray).size = l.length := rfl
        clear hrel hd
        by_cases hv0 : 0 < v
        · go_wp2
          go_round
          case rel => exact ⟨v / 10, UInt8.ofNat (48 + v % 10) :: l, by go_num, by rw [UInt8.ofNat_add]; exact congrArg Value.string (cat_lists [_] l), by omega, .inr ⟨by simp, HD.out⟩⟩
          case measure =>
            have hq : strLen (.string (⟨#[48 + UInt8.ofNat (v % 10)]⟩ ++ ⟨l.toArray⟩)) ≠ 0 := by
              rw [show (⟨#[48 + UInt8.ofNat (v % 10)]⟩ : ByteArray) = ⟨[48 + UInt8.ofNat (v % 10)].toArray⟩ from rfl, cat_lists]
              simp [strLen, ByteArray.size]
            rw [if_neg hq]
            simp only [intOf]
            split <;> omega
        · obtain rfl : v = 0 := by omega
          obtain rfl : l = [] := by
            apply Classical.byContradiction
            intro h
            exact hgo ⟨rfl, h⟩
          go_wp2
          go_round
          case rel => exact ⟨0, [48], rfl, congrArg Value.string (cat_lists [48] []), by decide, .inr ⟨by simp, HD.out⟩⟩
          case measure =>
            have hq : strLen (.string (⟨#[48]⟩ ++ ⟨#[]⟩)) ≠ 0 := by decide
            rw [if_neg hq, if_pos (by decide)]
            decide
  · obtain ⟨u, hu⟩ : ∃ u : Nat, n = (u : Int) := ⟨n.natAbs, by omega⟩
    subst hu
    have e : Lib.itoa (u : Int) = Lib.decDigits u := Lib.itoa_nonneg u
    rw [e]
    clear e
    go_enter Tryd.func28, Tryd.ntmps28
    go_wp2
    have hu9 : u < 18446744073709551616 := by omega
    go_loop [3, 4] (fun x d => ∃ (v : Nat) (l : List UInt8), x = .int .u64 (v : Int) ∧ d = .string ⟨l.toArray⟩ ∧ v < 18446744073709551616 ∧ (l = [] ∧ v = u ∨ l ≠ [] ∧ dig v ++ l = Lib.decDigits u)) (fun x d => if strLen d = 0 then 18446744073709551617 else (intOf x).toNat)
    case atStart => exact ⟨u, [], by go_num, rfl, hu9, .inl ⟨rfl, rfl⟩⟩
    case round =>
      obtain ⟨v, l, rfl, rfl, hv, hrel⟩ := hrel
      by_cases hgo : v = 0 ∧ l ≠ []
      · obtain ⟨rfl, hl⟩ := hgo
        have hl2 : dig 0 ++ l = Lib.decDigits u := by
          rcases hrel with ⟨h, _⟩ | ⟨_, h⟩
          · exact absurd h hl
          · exact h
        have hle : l.isEmpty = false := by
          cases l
          · exact absurd rfl hl
          · rfl
        have hl3 : l = Lib.decDigits u := by simpa [dig] using hl2
        have hll : l.length ≤ 21 := by
          have h2 : (Lib.decDigits u).length ≤ 21 := by rw [Lib.decDigits_length]; have := Lib.nDigits_le20 u hu9; omega
          rw [hl3]; exact h2
        have HL := Lib.hid hl3
        clear hl2 hl3 hrel
        go_wp2
        go_ret
        rw [← HL.out]
        exact ⟨rfl, Ev.refl _⟩
      · have hd : Lib.decDigits v ++ l = Lib.decDigits u := by
          rcases hrel with ⟨rfl, rfl⟩ | ⟨h1, h2⟩
          · simp
          · rw [← h2]; unfold dig; rw [if_neg (by intro h; exact hgo ⟨h, h1⟩)]
        rw [← dig_step, List.append_assoc] at hd
        have HD := Lib.hid hd
        have hm : v % 10 < 10 := by omega
        have hll : l.length ≤ 21 := by
          have h1 := congrArg List.length HD.out
          have h2 : (Lib.decDigits u).length ≤ 21 := by rw [Lib.decDigits_length]; have := Lib.nDigits_le20 u hu9; omega
          simp only [List.length_append] at h1
          omega
        have hx := digit_at (v % 10) hm
        have hz : (⟨l.toArray⟩ : ByteArray).size = l.length := rfl
        clear hrel hd
        by_cases hv0 : 0 < v
        · go_wp2
          go_round
          case rel => exact ⟨v / 10, UInt8.ofNat (48 + v % 10) :: l, by go_num, by rw [UInt8.ofNat_add]; exact congrArg Value.string (cat_lists [_] l), by omega, .inr ⟨by simp, HD.out⟩⟩
          case measure =>
            have hq : strLen (.string (⟨#[48 + UInt8.ofNat (v % 10)]⟩ ++ ⟨l.toArray⟩)) ≠ 0 := by
              rw [show (⟨#[48 + UInt8.ofNat (v % 10)]⟩ : ByteArray) = ⟨[48 + UInt8.ofNat (v % 10)].toArray⟩ from rfl, cat_lists]
              simp [strLen, ByteArray.size]
            rw [if_neg hq]
            simp only [intOf]
            split <;> omega
        · obtain rfl : v = 0 := by omega
          obtain rfl : l = [] := by
            apply Classical.byContradiction
            intro h
            exact hgo ⟨rfl, h⟩
          go_wp2
          go_round
          case rel => exact ⟨0, [48], rfl, congrArg Value.string (cat_lists [48] []), by decide, .inr ⟨by simp, HD.out⟩⟩
          case measure =>
            have hq : strLen (.string (⟨#[48]⟩ ++ ⟨#[]⟩)) ≠ 0 := by decide
            rw [if_neg hq, if_pos (by decide)]
            decide

theorem hexD_at (i : Nat) (h : i < 16) : (⟨#[48, 49, 50, 51, 52, 53, 54, 55, 56, 57, 97, 98, 99, 100, 101, 102]⟩ : ByteArray).extract i (i + 1) = ⟨#[hexB i]⟩ := by
  rw [Lib.extract_eq]
  have : ∀ i, i < 16 → (((⟨#[48, 49, 50, 51, 52, 53, 54, 55, 56, 57, 97, 98, 99, 100, 101, 102]⟩ : ByteArray).data.toList.drop i).take (i + 1 - i)) = [hexB i] := by decide
  rw [this i h]

theorem cat_four (X : List UInt8) (a b c : UInt8) : (⟨X.toArray⟩ : ByteArray) ++ ⟨#[a]⟩ ++ ⟨#[b]⟩ ++ ⟨#[c]⟩ = ⟨(X ++ [a, b, c]).toArray⟩ := by
  have h1 : ∀ x : UInt8, (⟨#[x]⟩ : ByteArray) = ⟨[x].toArray⟩ := fun _ => rfl
  rw [h1, h1, h1, cat_lists, cat_lists, cat_lists]
  simp
theorem getD_at (s : ByteArray) (k : Nat) (h : k < s.size) : s[k] = s.data.toList.getD k 0 := by
  obtain ⟨a⟩ := s
  have h2 : k < a.size := h
  show a[k] = _
  simp [List.getD, h2]
theorem one_at (s : ByteArray) (k : Nat) (h : k < s.size) (c : UInt8) (hc : ∀ hh, s[k]'hh = c) : s.extract k (k + 1) = ⟨#[c]⟩ := by
  have h2 : k < s.data.toList.length := by rw [Array.length_toList]; exact h
  rw [Lib.extract_eq, show k + 1 - k = 1 by omega, List.take_one, List.head?_drop]
  have h3 := getD_at s k h
  rw [hc h, List.getD, List.getElem?_eq_getElem h2, Option.getD_some] at h3
  rw [List.getElem?_eq_getElem h2, ← h3]
  rfl

set_option maxRecDepth 100000 in
set_option maxHeartbeats 3200000 in
theorem refr_quote (s : ByteArray) (w : World) (hs : s.size ≤ 1000) :
    Calls Tryd.prog 80 #[.string s] w fun e w' => e = .returned (.string ⟨(quoteB s.data.toList).toArray⟩) ∧ Ev w w' := by
  have hll : s.data.toList.length = s.size := by rw [Array.length_toList]; rfl
  go_enter Tryd.func80, Tryd.ntmps80
  go_wp2
  have HL := Lib.hid hll
  clear hll
  go_loopw [3, 4] (fun x i wr => ∃ k : Nat, k ≤ s.size ∧ i = .int .i64 (k : Int) ∧ x = .string ⟨(34 :: (s.data.toList.take k).flatMap showB).toArray⟩ ∧ Ev w wr) (fun x i _ => s.size - (intOf i).toNat)
  case atStart => exact ⟨0, Nat.zero_le _, rfl, rfl, Ev.refl _⟩
  case round =>
    obtain ⟨k, hk, rfl, rfl, hE⟩ := hrel
    have hfl := flat_length (s.data.toList.take k)
    have hfk : (s.data.toList.take k).length ≤ k := by simp; omega
    obtain ⟨X, hX⟩ : ∃ X, X = 34 :: (s.data.toList.take k).flatMap showB := ⟨_, rfl⟩
    have hXl : X.length ≤ 4000 := by rw [hX, List.length_cons]; omega
    rw [← hX]
    clear hfl hfk
    by_cases hlt : k < s.size
    · obtain ⟨c, hc⟩ : ∃ c, s[k] = c := ⟨_, rfl⟩
      have hidx : ∀ hh, s[k]'hh = c := fun _ => hc
      have hX2 : 34 :: (s.data.toList.take (k + 1)).flatMap showB = X ++ showB c := by
        rw [flat_succ (by rw [HL.out]; exact hlt), hX, List.cons_append, ← getD_at s k hlt, hc]
      have HX := Lib.hid hX2
      clear hX hX2 hc
      have hcn := c.toNat_lt
      by_cases h1 : (c.toNat : Int) < 32
      · have hp : plainB c = false := by simp [plainB]; omega
        have hs : showB c = [92, hexB (c.toNat / 16), hexB (c.toNat % 16)] := by simp [showB, hp]
        have HP := Lib.hid hs
        clear hp hs
        have hxa := hexD_at (c.toNat / 16) (by omega)
        have hxb := hexD_at (c.toNat % 16) (by omega)
        go_wp2
        go_quiet (fail)
        go_wp2
        go_roundw
        case rel =>
          refine ⟨k + 1, by omega, by go_num, ?_, hE.trans (Ev.drewN _ _)⟩
          rw [HX.out, HP.out]
          exact congrArg Value.string (cat_four X 92 (hexB (c.toNat / 16)) (hexB (c.toNat % 16)))
        case measure => simp [intOf]; omega
      · by_cases h2 : (c.toNat : Int) > 126
        · have hp : plainB c = false := by simp [plainB]; omega
          have hs : showB c = [92, hexB (c.toNat / 16), hexB (c.toNat % 16)] := by simp [showB, hp]
          have HP := Lib.hid hs
          clear hp hs
          have hxa := hexD_at (c.toNat / 16) (by omega)
          have hxb := hexD_at (c.toNat % 16) (by omega)
          go_wp2
          go_quiet (fail)
          go_wp2
          go_roundw
          case rel =>
            refine ⟨k + 1, by omega, by go_num, ?_, hE.trans (Ev.drewN _ _)⟩
            rw [HX.out, HP.out]
            exact congrArg Value.string (cat_four X 92 (hexB (c.toNat / 16)) (hexB (c.toNat % 16)))
          case measure => simp [intOf]; omega
        · by_cases h3 : (c.toNat : Int) = 34
          · have hp : plainB c = false := by simp [plainB]; omega
            have hs : showB c = [92, hexB (c.toNat / 16), hexB (c.toNat % 16)] := by simp [showB, hp]
            have HP := Lib.hid hs
            clear hp hs
            have hxa := hexD_at 2 (by decide)
            have n1 : c.toNat / 16 = 2 := by omega
            have n2 : c.toNat % 16 = 2 := by omega
            have N1 := Lib.hid n1; have N2 := Lib.hid n2
            clear n1 n2
            go_wp2
            go_quiet (fail)
            go_wp2
            go_roundw
            case rel =>
              refine ⟨k + 1, by omega, by go_num, ?_, hE.trans (Ev.drewN _ _)⟩
              rw [HX.out, HP.out, N1.out, N2.out]
              exact congrArg Value.string (cat_four X 92 (hexB 2) (hexB 2))
            case measure => simp [intOf]; omega
          · by_cases h4 : (c.toNat : Int) = 92
            · have hp : plainB c = false := by simp [plainB]; omega
              have hs : showB c = [92, hexB (c.toNat / 16), hexB (c.toNat % 16)] := by simp [showB, hp]
              have HP := Lib.hid hs
              clear hp hs
              have hxa : (⟨#[48, 49, 50, 51, 52, 53, 54, 55, 56, 57, 97, 98, 99, 100, 101, 102]⟩ : ByteArray).extract 5 6 = ⟨#[hexB (c.toNat / 16)]⟩ := by rw [show c.toNat / 16 = 5 by omega]; exact hexD_at 5 (by decide)
              have hxb : (⟨#[48, 49, 50, 51, 52, 53, 54, 55, 56, 57, 97, 98, 99, 100, 101, 102]⟩ : ByteArray).extract 12 13 = ⟨#[hexB (c.toNat % 16)]⟩ := by rw [show c.toNat % 16 = 12 by omega]; exact hexD_at 12 (by decide)
              go_wp2
              go_quiet (fail)
              go_wp2
              go_roundw
              case rel =>
                refine ⟨k + 1, by omega, by go_num, ?_, hE.trans (Ev.drewN _ _)⟩
                rw [HX.out, HP.out]
                exact congrArg Value.string (cat_four X 92 (hexB (c.toNat / 16)) (hexB (c.toNat % 16)))
              case measure => simp [intOf]; omega
            · have hp : plainB c = true := by simp [plainB]; omega
              have e3 : ((c.toNat : Int) == 34) = false := beq_eq_false_iff_ne.2 h3
              have e4 : ((c.toNat : Int) == 92) = false := beq_eq_false_iff_ne.2 h4
              have hs : showB c = [c] := by simp [showB, hp]
              have HP := Lib.hid hs
              clear hp hs
              have hxc : s.extract k (k + 1) = ⟨#[c]⟩ := one_at s k hlt c hidx
              go_wp2
              go_roundw
              case rel =>
                refine ⟨k + 1, by omega, by go_num, ?_, hE⟩
                rw [HX.out, HP.out]
                exact congrArg Value.string (cat_lists X [c])
              case measure => simp [intOf]; omega
    · obtain rfl : k = s.size := by omega
      have hq : X ++ [34] = quoteB s.data.toList := by rw [hX, List.take_of_length_le (by rw [HL.out]; exact Nat.le_refl _)]; rfl
      have HQ := Lib.hid hq
      clear hX hq
      go_wp2
      go_ret
      exact ⟨by rw [← HQ.out]; exact congrArg (fun x => Ending.returned (Value.string x)) (cat_lists X [34]), hE⟩

set_option maxRecDepth 100000 in
set_option maxHeartbeats 800000 in
theorem refr_show (k n : Int) (s : ByteArray) (w : World) (h0 : -9223372036854775808 ≤ n) (h1 : n ≤ 9223372036854775807) :
    Calls Tryd.prog 57 #[vv k n s] w fun e w' => e = .returned (.string ⟨(showV k n s).toArray⟩) ∧ Ev w w' := by
  have hR := fun w1 => refr_right k n s w1
  obtain ⟨w0, hw0⟩ : ∃ w0, w0 = w.alloc (.cells #[.int .i64 k, .int .i64 n, .string s] 68) := ⟨_, rfl⟩
  have B : Boxed w.heap.size k n s w0 := hw0 ▸ Boxed.new k n s w
  have hE0 : Ev w w0 := hw0 ▸ Ev.alloc w _
  cases hr : rightV k n s
  · have hv : showV k n s = [63] := by simp [showV, hr]
    rw [hv]
    rw [hr] at hR
    have HR := Lib.hid hR
    clear hR hr hv
    go_enter Tryd.func57, Tryd.ntmps57
    go_wp2_with (first | (rw [← hw0]; (with_reducible refine (HR.out _).mono ?_); rintro y w1 ⟨rfl, hE1⟩))
    go_ret
    exact ⟨rfl, hE0.trans hE1⟩
  · have hsz := right_size hr
    by_cases hk : k = 1
    · subst hk
      have hv : showV 1 n s = Lib.itoa n := by simp [showV, hr]
      rw [hv]
      rw [hr] at hR
      have HR := Lib.hid hR
      have HF := Lib.hid (fun w1 => refr_digits n w1 h0 h1)
      clear hR hr hv
      go_enter Tryd.func57, Tryd.ntmps57
      go_wp2_with (first | (rw [← hw0]; (with_reducible refine (HR.out _).mono ?_); rintro y w1 ⟨rfl, hE1⟩; have B1 := B.ev hE1; have c0 := B1.c0; have c1 := B1.c1) | ((with_reducible refine (HF.out _).mono ?_); rintro y w2 ⟨rfl, hE2⟩))
      go_ret
      exact ⟨rfl, (hE0.trans hE1).trans hE2⟩
    · have hv : showV k n s = quoteB s.data.toList := by simp [showV, hr, hk]
      rw [hv]
      rw [hr] at hR
      have HR := Lib.hid hR
      have HF := Lib.hid (fun w1 => refr_quote s w1 (by omega))
      clear hR hr hv
      go_enter Tryd.func57, Tryd.ntmps57
      go_wp2_with (first | (rw [← hw0]; (with_reducible refine (HR.out _).mono ?_); rintro y w1 ⟨rfl, hE1⟩; have B1 := B.ev hE1; have c0 := B1.c0; have c2 := B1.c2) | ((with_reducible refine (HF.out _).mono ?_); rintro y w2 ⟨rfl, hE2⟩))
      go_ret
      exact ⟨rfl, (hE0.trans hE1).trans hE2⟩
end Go.Proofs.YtiiogjpgeginlaaDoor
