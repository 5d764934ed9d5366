/-
  The contracts of package zset: Total, Plain, Of, ofNet.
-/
import Derived.Test.YtcenjjoadhfhaaaZr
namespace Go.Proofs.Ytcenjjoadhfhaaa
open Go.RowKit
set_option linter.unusedVariables false

theorem AllParts.kept {Z : List J} (h : AllParts Z) : KeptAll Z := fun z hz => KeptAs.part (h z hz).1 (h z hz).2
def totalV (b : Bool) (s : Option Int) : Value := match b, s with
  | true, some m => .tuple #[.int .i64 m, .bool true]
  | _, _ => .tuple #[.int .i64 0, .bool false]
theorem net_tv (m : Int) (h : okNet m = true) (w : World) : Calls Try.prog 21 #[.complex .f64 (fl (redP m)) (fl (redQ m))] w fun e w' => e = .returned (.int .i64 m) ∧ w = w' :=
  net_i (redP m) (redQ m) m (Lib.hid (red_net m)) (redP_part h) (redQ_part h) w
theorem net_zero (w : World) : Calls Try.prog 21 #[.complex .f64 0 0] w fun e w' => e = .returned (.int .i64 0) ∧ w = w' := by
  have := net_tv 0 (by decide) w
  rwa [show redP 0 = 0 from rfl, show redQ 0 = 0 from rfl, fl_zero] at this

set_option maxRecDepth 100000 in
set_option maxHeartbeats 1600000 in
theorem zset_total {b0 : Nat} {A : Option Addr} {n cap : Nat} {Z : List J} (w : World) (h : Zs b0 w A n cap Z) (hp : AllParts Z) :
    Calls Try.prog 6 #[.slice A n cap] w fun e w' => e = .returned (totalV (setB (itemsOf Z)) (sumN 0 (itemsOf Z))) ∧ Ev w w' := by
  have HR := Lib.hid (zset_right w h hp.kept)
  have HA := Lib.hid (fun w1 (h1 : Ev w w1) => zset_add w1 (h.ev h1) hp)
  generalize setB (itemsOf Z) = sb at *
  have hok : ∀ m, sumN 0 (itemsOf Z) = some m → okNet m = true := fun m hm => sumN_ok _ 0 m (by decide) hm
  generalize sumN 0 (itemsOf Z) = sm at *
  clear h hp
  cases sb
  · have e : totalV false sm = .tuple #[.int .i64 0, .bool false] := by cases sm <;> rfl
    rw [e]
    clear hok
    go_enter Try.func6, Try.ntmps6
    go_wp2_with (first | ((with_reducible refine HR.out.mono ?_); rintro e w1 ⟨rfl, hE1⟩))
    go_ret2
    exact ⟨rfl, hE1⟩
  · cases sm with
    | none =>
      replace HA : Hid (∀ w1, Ev w w1 → Calls Try.prog 18 #[.slice A n cap] w1 fun e w' => e = .returned (.tuple #[.complex .f64 0 0, .bool false]) ∧ Ev w1 w') := HA
      clear hok
      go_enter Try.func6, Try.ntmps6
      go_wp2_with (first | ((with_reducible refine HR.out.mono ?_); rintro e w1 ⟨rfl, hE1⟩) | ((with_reducible refine (HA.out _ hE1).mono ?_); rintro e w2 ⟨rfl, hE2⟩) | ((with_reducible refine (net_zero _).mono ?_); rintro e w3 ⟨rfl, rfl⟩))
      go_ret2
      exact ⟨rfl, hE1.trans hE2⟩
    | some m =>
      replace HA : Hid (∀ w1, Ev w w1 → Calls Try.prog 18 #[.slice A n cap] w1 fun e w' => e = .returned (.tuple #[.complex .f64 (fl (redP m)) (fl (redQ m)), .bool true]) ∧ Ev w1 w') := HA
      have HNT := Lib.hid (fun w1 => net_tv m (hok m rfl) w1)
      clear hok
      go_enter Try.func6, Try.ntmps6
      go_wp2_with (first | ((with_reducible refine HR.out.mono ?_); rintro e w1 ⟨rfl, hE1⟩) | ((with_reducible refine (HA.out _ hE1).mono ?_); rintro e w2 ⟨rfl, hE2⟩) | ((with_reducible refine (HNT.out _).mono ?_); rintro e w3 ⟨rfl, rfl⟩))
      go_ret2
      exact ⟨rfl, hE1.trans hE2⟩

def plainB (l : List I) : Bool := (l.all fun x => decide (0 ≤ x.2.1 - x.2.2)) && setB l

set_option maxRecDepth 100000 in
set_option maxHeartbeats 1600000 in
theorem zset_plain {b0 : Nat} {A : Option Addr} {n cap : Nat} {Z : List J} (w : World) (h : Zs b0 w A n cap Z) (hp : AllParts Z) :
    Calls Try.prog 10 #[.slice A n cap] w fun e w' => e = .returned (.bool (plainB (itemsOf Z))) ∧ Ev w w' := by
  have hn := h.le
  have hm := h.max
  have HN := Lib.hid h.len
  have HP := Lib.hid hp
  have hst := store_complex
  have HR := Lib.hid (fun w1 (h1 : Ev w w1) => zset_right w1 (h.ev h1) hp.kept)
  clear hp
  go_enter Try.func10, Try.ntmps10
  go_wp2
  go_loopw [7] (fun i wr => ∃ k : Nat, k ≤ n ∧ i = .int .i64 (k : Int) ∧ Hid (((itemsOf (Z.take k)).all fun x => decide (0 ≤ x.2.1 - x.2.2)) = true) ∧ Ev w wr) (fun i _ => n - (intOf i).toNat)
  case atStart => exact ⟨0, Nat.zero_le _, rfl, Lib.hid rfl, Ev.refl _⟩
  case round =>
    obtain ⟨k, hk, rfl, HT, hE⟩ := hrel
    by_cases hlt : k < n
    · obtain ⟨b, off, z, rfl, hb, hb0, hx, c0, c1, hv⟩ := (h.ev hE).at hlt
      have hzp := HP.out z (List.mem_of_getElem? hx)
      have HX := Lib.hid hx
      obtain ⟨⟨A1, n1, cap1⟩, r1, p1, q1⟩ := z
      obtain ⟨m, hm1⟩ : ∃ m, p1 - q1 = m := ⟨_, rfl⟩
      have HNT := Lib.hid (fun w1 => net_i p1 q1 m (Lib.hid hm1) hzp.1 hzp.2 w1)
      have HM := Lib.hid hm1
      unfold jrow at c0
      unfold jtal at c1
      simp only at c0 c1
      clear hx hv hzp hm1
      obtain ⟨w0, hw0⟩ : ∃ w0, w0 = wr.alloc (.cells #[.slice A1 n1 cap1, .complex .f64 (fl p1) (fl q1)] 31) := ⟨_, rfl⟩
      have hE0 : Ev wr w0 := hw0 ▸ Ev.alloc _ _
      have B0 : Itembox wr.heap.size ((A1, n1, cap1), r1, p1, q1) w0 := hw0 ▸ Itembox.new ((A1, n1, cap1), r1, p1, q1) wr
      have d1 : w0.cell? ⟨wr.heap.size, 1, none⟩ = some (.complex .f64 (fl p1) (fl q1)) := B0.c1
      have i1 : (0 : Int) ≤ (k : Int) := by omega
      have i2 : (k : Int) < (n : Int) := by omega
      by_cases hneg : m < 0
      · have HF : Hid (plainB (itemsOf Z) = false) := Lib.hid (by
          unfold plainB
          rw [Bool.and_eq_false_iff]
          refine .inl (List.all_eq_false.2 ⟨(r1, p1, q1), List.mem_map.2 ⟨_, List.mem_of_getElem? HX.out, rfl⟩, ?_⟩)
          have := HM.out
          simp only [decide_eq_true_eq]
          omega)
        go_wp2_with (first | (rw [← hw0]; (with_reducible refine (HNT.out _).mono ?_); rintro e w1 ⟨rfl, rfl⟩))
        go_ret
        exact ⟨by rw [HF.out]; rfl, by first | exact hE.trans hE0 | exact hE.trans (Ev.alloc _ _)⟩
      · have HS : Hid (((itemsOf (Z.take (k + 1))).all fun x => decide (0 ≤ x.2.1 - x.2.2)) = true) := Lib.hid (by
          obtain ⟨hk2, e⟩ := List.getElem?_eq_some_iff.1 HX.out
          rw [List.take_succ_eq_append_getElem hk2, e]
          unfold itemsOf
          rw [List.map_append, List.all_append]
          have := HT.out
          unfold itemsOf at this
          rw [this]
          have := HM.out
          simp
          omega)
        go_wp2_with (first | (rw [← hw0]; (with_reducible refine (HNT.out _).mono ?_); rintro e w1 ⟨rfl, rfl⟩))
        go_roundw
        case rel => exact ⟨k + 1, by omega, by go_num, HS, by first | exact hE.trans hE0 | exact hE.trans (Ev.alloc _ _)⟩
        case measure => simp [intOf]; omega
    · obtain rfl : k = n := by omega
      have HF : Hid (plainB (itemsOf Z) = setB (itemsOf Z)) := Lib.hid (by
        have := HT.out
        rw [List.take_of_length_le (by rw [HN.out]; exact Nat.le_refl _)] at this
        unfold plainB
        rw [this]; rfl)
      go_wp2_with (first | ((with_reducible refine (HR.out _ hE).mono ?_); rintro e w1 ⟨rfl, hE1⟩))
      go_ret
      exact ⟨by rw [HF.out]; rfl, hE.trans hE1⟩

/-- The tally of a row in a list. -/
def ofV (l : List I) (r : List V) : Value := match l.find? (fun x => sameR x.1 r) with
  | some x => .complex .f64 (fl x.2.1) (fl x.2.2)
  | none => .complex .f64 0 0

set_option maxRecDepth 100000 in
set_option maxHeartbeats 1600000 in
theorem zset_of {b0 : Nat} {A : Option Addr} {n cap : Nat} {Z : List J} {A' : Option Addr} {n' cap' : Nat} {r : List V} (w : World) (h : Zs b0 w A n cap Z) (hp : AllParts Z) (hr : Vs w A' n' cap' r) :
    Calls Try.prog 12 #[.slice A n cap, .slice A' n' cap'] w fun e w' => e = .returned (cond (setB (itemsOf Z)) (ofV (itemsOf Z) r) (.complex .f64 0 0)) ∧ Ev w w' := by
  have hn := h.le
  have hm := h.max
  have HN := Lib.hid h.len
  have hst := store_complex
  have HR := Lib.hid (zset_right w h hp.kept)
  have HRV := Lib.hid hr
  clear hr
  generalize setB (itemsOf Z) = sb at *
  cases sb
  · go_enter Try.func12, Try.ntmps12
    go_wp2_with (first | ((with_reducible refine HR.out.mono ?_); rintro e w1 ⟨rfl, hE1⟩))
    go_ret
    exact ⟨rfl, hE1⟩
  · clear hp
    go_enter Try.func12, Try.ntmps12
    go_wp2_with (first | ((with_reducible refine HR.out.mono ?_); rintro e w1 ⟨rfl, hE1⟩))
    go_loopw [12] (fun i wr => ∃ k : Nat, k ≤ n ∧ i = .int .i64 (k : Int) ∧ Hid (∀ i x, i < k → (itemsOf Z)[i]? = some x → sameR x.1 r = false) ∧ Ev w wr) (fun i _ => n - (intOf i).toNat)
    case atStart => exact ⟨0, Nat.zero_le _, rfl, Lib.hid (fun i x hi => by omega), hE1⟩
    case round =>
      clear hE1
      obtain ⟨k, hk, rfl, HT, hE⟩ := hrel
      by_cases hlt : k < n
      · obtain ⟨b, off, z, rfl, hb, hb0, hx, c0, c1, hv⟩ := (h.ev hE).at hlt
        have HX := Lib.hid hx
        obtain ⟨⟨A1, n1, cap1⟩, r1, p1, q1⟩ := z
        unfold jrow at c0
        unfold jtal at c1
        simp only at c0 c1 hv
        obtain ⟨w0, hw0⟩ : ∃ w0, w0 = wr.alloc (.cells #[.slice A1 n1 cap1, .complex .f64 (fl p1) (fl q1)] 31) := ⟨_, rfl⟩
        have hE0 : Ev wr w0 := hw0 ▸ Ev.alloc _ _
        have B0 : Itembox wr.heap.size ((A1, n1, cap1), r1, p1, q1) w0 := hw0 ▸ Itembox.new ((A1, n1, cap1), r1, p1, q1) wr
        have d0 : w0.cell? ⟨wr.heap.size, 0, none⟩ = some (.slice A1 n1 cap1) := B0.c0
        have HS := Lib.hid (row_same w0 (hv.ev hE0) ((HRV.out.ev hE).ev hE0))
        clear hx hv
        obtain ⟨ss, hss⟩ : ∃ ss, sameR r1 r = ss := ⟨_, rfl⟩
        rw [hss] at HS
        have HSS := Lib.hid hss
        clear hss
        have HI : Hid ((itemsOf Z)[k]? = some (r1, p1, q1)) := Lib.hid (by unfold itemsOf; rw [List.getElem?_map, HX.out]; rfl)
        have i1 : (0 : Int) ≤ (k : Int) := by omega
        have i2 : (k : Int) < (n : Int) := by omega
        cases ss
        · go_wp2_with (first | (rw [← hw0]; (with_reducible refine HS.out.mono ?_); rintro e w2 ⟨rfl, hE2⟩))
          go_roundw
          case rel =>
            refine ⟨k + 1, by omega, by go_num, Lib.hid (fun i x hi hx => ?_), (hE.trans hE0).trans hE2⟩
            by_cases hik : i < k
            · exact HT.out i x hik hx
            · obtain rfl : i = k := by omega
              rw [HI.out] at hx
              obtain rfl := Option.some.inj hx
              exact HSS.out
          case measure => simp [intOf]; omega
        · have HF : Hid (ofV (itemsOf Z) r = .complex .f64 (fl p1) (fl q1)) := Lib.hid (by
            unfold ofV
            have : (itemsOf Z).find? (fun x => sameR x.1 r) = some (r1, p1, q1) := by
              obtain ⟨hk2, e⟩ := List.getElem?_eq_some_iff.1 HI.out
              rw [List.find?_eq_some_iff_getElem]
              refine ⟨HSS.out, k, hk2, e, fun j hj => ?_⟩
              rw [HT.out j _ hj (List.getElem?_eq_getElem (by omega))]; rfl
            rw [this])
          go_wp2_with (first | (rw [← hw0]; (with_reducible refine HS.out.mono ?_); rintro e w2 ⟨rfl, hE2⟩; have d1 : w2.cell? ⟨wr.heap.size, 1, none⟩ = some (.complex .f64 (fl p1) (fl q1)) := (B0.ev hE2).c1))
          go_ret
          exact ⟨by rw [HF.out]; rfl, (hE.trans hE0).trans hE2⟩
      · obtain rfl : k = n := by omega
        have HF : Hid (ofV (itemsOf Z) r = .complex .f64 0 0) := Lib.hid (by
          unfold ofV
          have : (itemsOf Z).find? (fun x => sameR x.1 r) = none := by
            rw [List.find?_eq_none]
            intro x hx
            obtain ⟨i, hi, rfl⟩ := List.getElem_of_mem hx
            rw [HT.out i _ (by rw [itemsOf_length, HN.out] at hi; exact hi) (List.getElem?_eq_getElem hi)]
            exact Bool.false_ne_true
          rw [this])
        go_wp2
        go_ret
        exact ⟨by rw [HF.out]; rfl, hE⟩

theorem zset_ofNet (n : Int) (h1 : -9223372036854775807 ≤ n) (h2 : n ≤ 9223372036854775807) (w : World) :
    Calls Try.prog 39 #[.int .i64 n] w fun e w' => e = .returned (tv n) ∧ w = w' := by
  by_cases h0 : 0 < n
  · have e1 : redP n = n := by unfold redP; omega
    have e2 : redQ n = 0 := by unfold redQ; omega
    unfold tv
    rw [e1, e2]
    go_enter Try.func39, Try.ntmps39
    go_wp2_with ((with_reducible refine (of_any _ _ _).mono ?_); rintro e w' ⟨rfl, rfl⟩)
    all_goals
      go_ret
      exact ⟨ret_fl (by omega) (by omega), rfl⟩
  · have e1 : redP n = 0 := by unfold redP; omega
    have e2 : redQ n = -n := by unfold redQ; omega
    unfold tv
    rw [e1, e2]
    go_enter Try.func39, Try.ntmps39
    go_wp2_with ((with_reducible refine (of_any _ _ _).mono ?_); rintro e w' ⟨rfl, rfl⟩)
    all_goals
      go_ret
      exact ⟨ret_fl (by omega) (by omega), rfl⟩
end Go.Proofs.Ytcenjjoadhfhaaa
