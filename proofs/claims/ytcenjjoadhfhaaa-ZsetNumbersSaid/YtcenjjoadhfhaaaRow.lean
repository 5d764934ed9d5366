/-
  The contracts of package row.
-/
import Derived.Test.YtcenjjoadhfhaaaRowF
import Derived.BigQuiet
import Derived.Deep.QuietTactic
import Derived.WalkMore
namespace Go.Proofs.Ytcenjjoadhfhaaa
open Go.RowKit
set_option linter.unusedVariables false

set_option maxRecDepth 100000 in
theorem row_isCount (n : Nat) (w : World) (hn : n < 9223372036854775808) :
    Calls Try.prog 42 #[.int .i64 (n : Int)] w fun e w' => e = .returned (.bool (decide (1 ≤ n) && decide (n ≤ 6))) ∧ w = w' := by
  go_enter Try.func42, Try.ntmps42
  by_cases h1 : 1 ≤ n
  · have i1 : (1 : Int) ≤ (n : Int) := by omega
    have e : (decide (1 ≤ n) && decide (n ≤ 6)) = decide ((n : Int) ≤ 6) := by rw [decide_eq_true h1, Bool.true_and]; exact decide_eq_decide.2 (by omega)
    rw [e]
    go_wp2
    go_ret
    exact ⟨rfl, rfl⟩
  · have i1 : ¬ (1 : Int) ≤ (n : Int) := by omega
    rw [show (decide (1 ≤ n) && decide (n ≤ 6)) = false by rw [decide_eq_false h1]; rfl]
    go_wp2
    go_ret
    exact ⟨rfl, rfl⟩

set_option maxRecDepth 100000 in
set_option maxHeartbeats 800000 in
theorem row_right {A : Option Addr} {n cap : Nat} {l : List V} (w : World) (h : Vs w A n cap l) :
    Calls Try.prog 26 #[.slice A n cap] w fun e w' => e = .returned (.bool (rightR l)) ∧ Ev w w' := by
  have hn := h.le
  have hm := h.max
  have HN := Lib.hid h.len
  have HC := Lib.hid (fun w1 => row_isCount n w1 (by omega))
  have HG : Hid (rightR l = ((decide (1 ≤ n) && decide (n ≤ 6)) && okR l)) := Lib.hid (by unfold rightR; rw [HN.out])
  generalize (decide (1 ≤ n) && decide (n ≤ 6)) = c at *
  cases c
  · go_enter Try.func26, Try.ntmps26
    go_wp2_with (first | ((with_reducible refine (HC.out _).mono ?_); rintro x w1 ⟨rfl, rfl⟩))
    go_ret
    exact ⟨by rw [HG.out]; rfl, Ev.refl _⟩
  · go_enter Try.func26, Try.ntmps26
    go_wp2_with (first | ((with_reducible refine (HC.out _).mono ?_); rintro x w1 ⟨rfl, rfl⟩))
    go_loopw [11] (fun i wr => ∃ k : Nat, k ≤ n ∧ i = .int .i64 k ∧ Hid (okR (l.take k) = true) ∧ Ev w wr) (fun i _ => n - (intOf i).toNat)
    case atStart => exact ⟨0, Nat.zero_le _, rfl, Lib.hid rfl, Ev.refl _⟩
    case round =>
      obtain ⟨k, hk, rfl, HT, hE⟩ := hrel
      by_cases hlt : k < n
      · obtain ⟨b, off, x, rfl, hb, hx, c0, c1, c2⟩ := (h.ev hE).vcell hlt
        have HX := Lib.hid hx
        clear hx
        obtain ⟨xk, xn, xs⟩ := x
        simp only at c0 c1 c2
        have HV := Lib.hid (fun w1 => value_right xk xn xs w1)
        cases hr : rightV xk xn xs
        · have HF := Lib.hid (okR_not HX.out hr)
          rw [hr] at HV
          go_wp2_with (first | ((with_reducible refine (HV.out _).mono ?_); rintro x w1 ⟨rfl, hE1⟩))
          go_ret
          exact ⟨by rw [HG.out, HF.out]; rfl, (hE.trans (Ev.alloc _ _)).trans hE1⟩
        · have HF : Hid (okR (l.take (k + 1)) = true) := Lib.hid (by rw [okR_take HX.out, HT.out]; exact hr)
          rw [hr] at HV
          go_wp2_with (first | ((with_reducible refine (HV.out _).mono ?_); rintro x w1 ⟨rfl, hE1⟩))
          go_roundw
          case rel => exact ⟨k + 1, by omega, by go_num, HF, (hE.trans (Ev.alloc _ _)).trans hE1⟩
          case measure => simp [intOf]; omega
      · obtain rfl : k = n := by omega
        go_wp2
        go_ret
        refine ⟨?_, hE⟩
        have := HT.out
        rw [List.take_of_length_le (by rw [HN.out]; exact Nat.le_refl _)] at this
        rw [HG.out, this]
        rfl

set_option maxRecDepth 100000 in
set_option maxHeartbeats 1600000 in
theorem slices_equal {A B : Option Addr} {n m cap cap' : Nat} {a b : List V} (w : World) (h : Vs w A n cap a) (h' : Vs w B m cap' b) :
    Calls Try.prog 47 #[.slice A n cap, .slice B m cap'] w fun e w' => e = .returned (.bool (eqL a b)) ∧ Ev w w' := by
  have hn := h.le
  have hm := h.max
  have hn' := h'.le
  have hm' := h'.max
  have HL := Lib.hid h.len
  have HM := Lib.hid h'.len
  by_cases hnn : n = m
  · subst hnn
    go_enter Try.func47, Try.ntmps47
    go_wp2
    go_loopw [13] (fun i wr => ∃ k : Nat, k ≤ n ∧ i = .int .i64 k ∧ Hid (a.take k = b.take k) ∧ Ev w wr) (fun i _ => n - (intOf i).toNat)
    case atStart => exact ⟨0, Nat.zero_le _, rfl, Lib.hid (by simp), Ev.refl _⟩
    case round =>
      obtain ⟨k, hk, rfl, HT, hE⟩ := hrel
      by_cases hlt : k < n
      · obtain ⟨b1, off, ⟨xk, xn, xs⟩, rfl, hb, hx, c0, c1, c2⟩ := (h.ev hE).vcell hlt
        obtain ⟨b2, off', ⟨yk, yn, ys⟩, rfl, hb', hy, d0, d1, d2⟩ := (h'.ev hE).vcell hlt
        have i1 : (0 : Int) ≤ (k : Int) := by omega
        have i2 : (k : Int) < (n : Int) := by omega
        simp only at c0 c1 c2 d0 d1 d2
        have HX := Lib.hid hx
        have HY := Lib.hid hy
        clear hx hy h h'
        go_wp2_with fail
        refine wp_region_quiet_lit (by kernel_rfl) (by kernel_rfl) ?_
        repeat (quiet_step (fail))
        refine BigFrame.wpQuiet_want rfl fun K hK => quiet_neq_val rfl rfl rfl (hK _ ?_)
        refine wpQuiet_nil ?_
        rintro _ ⟨nq, rfl⟩
        by_cases hxy : (xk, xn, xs) = (yk, yn, ys)
        · have HT' : Hid (a.take (k + 1) = b.take (k + 1)) := Lib.hid (take_step HT.out HX.out (hxy ▸ HY.out))
          rw [(sameV_dec (xk, xn, xs) (yk, yn, ys)).trans (decide_eq_true hxy)]
          clear HX HY HT hxy
          go_wp2
          go_roundw
          case rel => exact ⟨k + 1, by omega, by go_num, HT', hE.trans (Ev.drewN _ _)⟩
          case measure => simp [intOf]; omega
        · have HF := Lib.hid (ne_at HX.out HY.out hxy)
          rw [(sameV_dec (xk, xn, xs) (yk, yn, ys)).trans (decide_eq_false hxy)]
          clear HX HY HT hxy
          go_wp2
          go_ret
          exact ⟨by rw [eqL, decide_eq_false HF.out]; rfl, hE.trans (Ev.drewN _ _)⟩
      · obtain rfl : k = n := by omega
        have HF := Lib.hid (eq_end HT.out HL.out.symm HM.out.symm)
        go_wp2
        go_ret
        exact ⟨by rw [eqL, decide_eq_true HF.out]; rfl, hE⟩
  · go_enter Try.func47, Try.ntmps47
    have hne : ¬ (n : Int) = (m : Int) := by omega
    have HF : Hid (a ≠ b) := Lib.hid (fun e => hnn (by rw [← HL.out, ← HM.out, e]))
    go_wp2
    go_ret
    exact ⟨by rw [eqL, decide_eq_false HF.out]; rfl, Ev.refl _⟩

/-- How far two rows go together. -/
structure Shares (a b : List V) (i : Nat) : Prop where
  le : i ≤ a.length
  le' : i ≤ b.length
  same : a.take i = b.take i
  differ : ∀ x y, a[i]? = some x → b[i]? = some y → x ≠ y

set_option maxRecDepth 100000 in
set_option maxHeartbeats 1600000 in
theorem row_shared {A B : Option Addr} {n m cap cap' : Nat} {a b : List V} (w : World) (h : Vs w A n cap a) (h' : Vs w B m cap' b) :
    Calls Try.prog 45 #[.slice A n cap, .slice B m cap'] w fun e w' => (∃ i : Nat, e = .returned (.int .i64 (i : Int)) ∧ Shares a b i) ∧ Ev w w' := by
  have hn := h.le
  have hm := h.max
  have hn' := h'.le
  have hm' := h'.max
  have HL := Lib.hid h.len
  have HM := Lib.hid h'.len
  go_enter Try.func45, Try.ntmps45
  go_wp2
  go_loopw [5] (fun i wr => ∃ k : Nat, k ≤ n ∧ k ≤ m ∧ i = .int .i64 k ∧ Hid (a.take k = b.take k) ∧ Ev w wr) (fun i _ => n - (intOf i).toNat)
  case atStart => exact ⟨0, Nat.zero_le _, Nat.zero_le _, rfl, Lib.hid (by simp), Ev.refl _⟩
  case round =>
    obtain ⟨k, hk, hk', rfl, HT, hE⟩ := hrel
    by_cases hlt : k < n
    · have i2 : (k : Int) < (n : Int) := by omega
      by_cases hlt' : k < m
      · obtain ⟨b1, off, ⟨xk, xn, xs⟩, rfl, hb, hx, c0, c1, c2⟩ := (h.ev hE).vcell hlt
        obtain ⟨b2, off', ⟨yk, yn, ys⟩, rfl, hb', hy, d0, d1, d2⟩ := (h'.ev hE).vcell hlt'
        have i1 : (0 : Int) ≤ (k : Int) := by omega
        have i3 : (k : Int) < (m : Int) := by omega
        simp only at c0 c1 c2 d0 d1 d2
        have HX := Lib.hid hx
        have HY := Lib.hid hy
        clear hx hy h h'
        go_wp2_with fail
        refine wp_region_quiet_lit (by kernel_rfl) (by kernel_rfl) ?_
        repeat (quiet_step (fail))
        refine BigFrame.wpQuiet_want rfl fun K hK => quiet_eq_val rfl rfl rfl (hK _ ?_)
        repeat (quiet_step (fail))
        refine wpQuiet_nil ?_
        rintro _ ⟨nq, rfl⟩
        by_cases hxy : (xk, xn, xs) = (yk, yn, ys)
        · have HT' : Hid (a.take (k + 1) = b.take (k + 1)) := Lib.hid (take_step HT.out HX.out (hxy ▸ HY.out))
          rw [(sameV_dec (xk, xn, xs) (yk, yn, ys)).trans (decide_eq_true hxy)]
          clear HX HY HT hxy
          go_wp2
          go_roundw
          case rel => exact ⟨k + 1, by omega, by omega, by go_num, HT', hE.trans (Ev.drewN _ _)⟩
          case measure => simp [intOf]; omega
        · have HF : Hid (Shares a b k) := Lib.hid ⟨by rw [HL.out]; exact hk, by rw [HM.out]; exact hk', HT.out, fun x y ex ey => by
            obtain rfl := Option.some.inj (HX.out.symm.trans ex)
            obtain rfl := Option.some.inj (HY.out.symm.trans ey)
            exact hxy⟩
          rw [(sameV_dec (xk, xn, xs) (yk, yn, ys)).trans (decide_eq_false hxy)]
          clear HX HY HT hxy
          go_wp2
          go_ret
          exact ⟨⟨k, rfl, HF.out⟩, hE.trans (Ev.drewN _ _)⟩
      · have i3 : ¬ (k : Int) < (m : Int) := by omega
        have HF : Hid (Shares a b k) := Lib.hid ⟨by rw [HL.out]; exact hk, by rw [HM.out]; exact hk', HT.out, fun x y ex ey => by
          have := (List.getElem?_eq_some_iff.1 ey).1
          rw [HM.out] at this
          omega⟩
        go_wp2_with fail
        go_quiet (fail)
        go_wp2
        go_ret
        exact ⟨⟨k, rfl, HF.out⟩, hE.trans (Ev.drewN _ _)⟩
    · have i2 : ¬ (k : Int) < (n : Int) := by omega
      have HF : Hid (Shares a b k) := Lib.hid ⟨by rw [HL.out]; exact hk, by rw [HM.out]; exact hk', HT.out, fun x y ex ey => by
        have := (List.getElem?_eq_some_iff.1 ex).1
        rw [HL.out] at this
        omega⟩
      go_wp2_with fail
      go_quiet (fail)
      go_wp2
      go_ret
      exact ⟨⟨k, rfl, HF.out⟩, hE.trans (Ev.drewN _ _)⟩

set_option maxRecDepth 100000 in
set_option maxHeartbeats 1600000 in
theorem row_same {A B : Option Addr} {n m cap cap' : Nat} {a b : List V} (w : World) (h : Vs w A n cap a) (h' : Vs w B m cap' b) :
    Calls Try.prog 29 #[.slice A n cap, .slice B m cap'] w fun e w' => e = .returned (.bool (sameR a b)) ∧ Ev w w' := by
  have HR := Lib.hid (fun w1 (h1 : Vs w1 A n cap a) => row_right w1 h1)
  have HE := Lib.hid (fun w1 (h1 : Vs w1 A n cap a) (h2 : Vs w1 B m cap' b) => slices_equal w1 h1 h2)
  unfold sameR
  generalize rightR a = r at *
  cases r
  · go_enter Try.func29, Try.ntmps29
    go_wp2_with (first | ((with_reducible refine (HR.out _ h).mono ?_); rintro x w1 ⟨rfl, hE1⟩))
    go_ret
    exact ⟨rfl, hE1⟩
  · go_enter Try.func29, Try.ntmps29
    go_wp2_with (first | ((with_reducible refine (HR.out _ h).mono ?_); rintro x w1 ⟨rfl, hE1⟩) | ((with_reducible refine (HE.out _ (h.ev hE1) (h'.ev hE1)).mono ?_); rintro x w2 ⟨rfl, hE2⟩))
    go_ret
    exact ⟨rfl, hE1.trans hE2⟩
end Go.Proofs.Ytcenjjoadhfhaaa
