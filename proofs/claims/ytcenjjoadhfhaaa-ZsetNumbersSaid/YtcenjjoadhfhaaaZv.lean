/-
  Chapter 6's runs: what Make, Total, Decode answer there; 'known'.
-/
import Derived.Test.YtcenjjoadhfhaaaZn
import Derived.Deep.Cut
namespace Go.Proofs.Ytcenjjoadhfhaaa
open Go.RowKit
set_option linter.unusedVariables false

abbrev r1 : List V := [1].map numV
abbrev r2 : List V := [2].map numV
theorem fl_1 : fl 1 = 4607182418800017408 := by decide +kernel
theorem fl_2 : fl 2 = 4611686018427387904 := by decide +kernel
theorem fl_5 : fl 5 = 4617315517961601024 := by decide +kernel
theorem fl_m1 : fl (-1) = 13830554455654793216 := by decide +kernel
theorem make_err {l : List I} (k : Nat) (ki : Int) (hk : (k : Int) = ki) (h : makeI l = (k, [])) (ht : ∀ x ∈ l, TallyAs x.2.1 x.2.2) (w : World) (A : Option Addr) (n cap : Nat) (hn : n ≤ 1000) (hS : SetIn l w A n cap) :
    Calls Try.prog 4 #[.slice A n cap] w fun e w' => ∃ A' cap', e = .returned (.tuple #[.slice A' 0 cap', .int .i64 ki]) ∧ Ev w w' :=
  (make_in w hS (by omega) ht).mono fun e w' ⟨hr, hE⟩ => by
    rw [h] at hr
    obtain ⟨A', cap', he, _⟩ := hr
    exact ⟨A', cap', by rw [he, hk]; rfl, hE⟩
theorem make_ok {l s : List I} (m : Nat) (hm : s.length = m) (h : makeI l = (0, s)) (ht : ∀ x ∈ l, TallyAs x.2.1 x.2.2) (w : World) (A : Option Addr) (n cap : Nat) (hn : n ≤ 1000) (hS : SetIn l w A n cap) :
    Calls Try.prog 4 #[.slice A n cap] w fun e w' => ∃ A' cap', e = .returned (.tuple #[.slice A' m cap', .int .i64 0]) ∧ SetIn s w' A' m cap' ∧ Ev w w' :=
  (make_in w hS (by omega) ht).mono fun e w' ⟨hr, hE⟩ => by
    rw [h] at hr
    obtain ⟨A', cap', he, hs⟩ := hr
    simp only at he hs
    rw [hm] at he hs
    exact ⟨A', cap', he, hs, hE⟩
theorem right_no (x y : Nat) (w : World) (h : Calls Try.prog 48 #[.float .f64 x] w fun e w' => e = .returned (.bool false) ∧ w = w') : Calls Try.prog 31 #[.complex .f64 x y] w fun e w' => e = .returned (.bool false) ∧ w = w' := by
  have H := Lib.hid h
  clear h
  go_enter Try.func31, Try.ntmps31
  go_wp2_with ((with_reducible refine H.out.mono ?_); rintro e w' ⟨rfl, rfl⟩)
  go_ret
  exact ⟨rfl, rfl⟩
/-- A number below 0 is no part. -/
theorem isPart_below (x : Nat) (h : FloatKind.f64.format.order 0 x = some .gt) (w : World) : Calls Try.prog 48 #[.float .f64 x] w fun e w' => e = .returned (.bool false) ∧ w = w' := by
  go_enter Try.func48, Try.ntmps48
  go_wp2
  go_ret
  exact ⟨rfl, rfl⟩
theorem tally_neg : TallyAs (-1) 0 := fun w => right_no (fl (-1)) (fl 0) w (isPart_below _ (by decide +kernel) w)
theorem tallies_of {l : List I} (h : PartsI l) : ∀ x ∈ l, TallyAs x.2.1 x.2.2 := fun x hx => TallyAs.part (h x hx).1 (h x hx).2
theorem parts_of {l : List I} (h : (l.all fun x => partB x.2.1 && partB x.2.2) = true) : PartsI l := fun x hx => by
  have := List.all_eq_true.1 h x hx
  rw [Bool.and_eq_true] at this
  exact ⟨partB_iff.1 this.1, partB_iff.1 this.2⟩

theorem mk_a : makeI [([], 1, 0)] = (1, []) := by decide +kernel
theorem mk_b : makeI [(r1, 1125899906842624, 0), (r1, 1, 0), (r2, 1, 0)] = (27, []) := by decide +kernel
theorem mk_c : makeI [(r1, 1125899906842624, 0), (r1, 1, 0), (r2, -1, 0)] = (1, []) := by decide +kernel
theorem mk_d : makeI [(r1, 2, 5)] = (0, [(r1, 0, 3)]) := by decide +kernel
theorem mk_k : makeI [(r2, 1, 0), (r1, 2, 0)] = (0, [(r1, 2, 0), (r2, 1, 0)]) := by decide +kernel
theorem mk_l : makeI [(r1, 1, 0), (r1, 0, 1)] = (0, []) := by decide +kernel
theorem two_rows {w : World} {A1 A2 : Option Addr} {m1 c1 m2 c2 : Nat} {k1 k2 : List Int} {p1 q1 p2 q2 : Int} (h1 : NumRow k1 w A1 m1 c1) (h2 : NumRow k2 w A2 m2 c2) :
    ∀ z ∈ [(((A1, m1, c1), (k1.map numV, p1, q1)) : J), ((A2, m2, c2), (k2.map numV, p2, q2))], RowLies w.heap.size w z := fun z hz => by
  simp only [List.mem_cons, List.not_mem_nil, or_false] at hz
  rcases hz with rfl | rfl
  · exact h1.lies _ _
  · exact h2.lies _ _

set_option maxRecDepth 100000 in
set_option maxHeartbeats 4000000 in
theorem known6 (w : World) :
    Calls Try.prog 13 #[] w fun e w' => e = .returned (.bool true) ∧ Ev w w' := by
  have HN1 := Lib.hid (fun w1 => nums_row [1] 1 rfl (by decide) (by decide) w1 #[.int .i64 1] rfl)
  have HN2 := Lib.hid (fun w1 => nums_row [2] 1 rfl (by decide) (by decide) w1 #[.int .i64 2] rfl)
  have HMk := Lib.hid (fun w1 A cap h => make_ok 2 rfl mk_k (tallies_of (parts_of (by decide +kernel))) w1 A 2 cap (by decide) h)
  have HMl := Lib.hid (fun w1 A cap h => make_ok 0 rfl mk_l (tallies_of (parts_of (by decide +kernel))) w1 A 2 cap (by decide) h)
  have HSA := Lib.hid (fun w1 A B cap cap' h h' => same_in (n := 2) (n' := 2) (l := [(r1, 2, 0), (r2, 1, 0)]) (m := [(r1, 2, 0), (r2, 1, 0)]) (A := A) (B := B) (cap := cap) (cap' := cap') w1 h h' (parts_of (by decide +kernel)) (parts_of (by decide +kernel)))
  have T := Ev.refl w
  go_enter Try.func13, Try.ntmps13
  go_upto_region 2 with (first | ((with_reducible refine (HN2.out _).mono ?_); rintro e w1 ⟨A1, m1, cap1, rfl, R1, E1⟩) | ((with_reducible refine (HN1.out _).mono ?_); rintro e w2 ⟨A2, m2, cap2, rfl, R2, E2⟩; have S1 := SetIn.made [((A1, m1, cap1), ([2].map numV, 1, 0)), ((A2, m2, cap2), ([1].map numV, 2, 0))] 2 rfl (by decide) w2 #[.slice A1 m1 cap1, .complex .f64 4607182418800017408 0, .slice A2 m2 cap2, .complex .f64 4611686018427387904 0] (by simp [jcells, jrow, jtal, fl_zero, fl_1, fl_2]) (two_rows (R1.ev E2) R2) [(r2, 1, 0), (r1, 2, 0)] rfl) | ((with_reducible refine (HMk.out _ _ _ S1).mono ?_); rintro e w3 ⟨A3, cap3, rfl, SK, E3⟩))
  have T := ((E1.trans E2).trans (Ev.alloc _ _)).trans E3
  clear S1 R1 R2 E1 E2 E3
  go_upto_region 3 with (first | (have hh := R4; (with_reducible refine (HN1.out _).mono ?_); rintro e w5 ⟨A5, m5, cap5, rfl, R5, E5⟩; have S2 := SetIn.made [((A4, m4, cap4), ([1].map numV, 1, 0)), ((A5, m5, cap5), ([1].map numV, 0, 1))] 2 rfl (by decide) w5 #[.slice A4 m4 cap4, .complex .f64 4607182418800017408 0, .slice A5 m5 cap5, .complex .f64 0 4607182418800017408] (by simp [jcells, jrow, jtal, fl_zero, fl_1]) (two_rows (R4.ev E5) R5) [(r1, 1, 0), (r1, 0, 1)] rfl) | ((with_reducible refine (HN1.out _).mono ?_); rintro e w4 ⟨A4, m4, cap4, rfl, R4, E4⟩) | ((with_reducible refine (HMl.out _ _ _ S2).mono ?_); rintro e w6 ⟨A6, cap6, rfl, _, E6⟩))
  have T2 := ((E4.trans E5).trans (Ev.alloc _ _)).trans E6
  replace SK := SK.ev T2
  replace T := T.trans T2
  clear S2 R4 R5 E4 E5 E6 T2
  go_wp2_with (first | ((with_reducible refine (HN1.out _).mono ?_); rintro e w7 ⟨A7, m7, cap7, rfl, R7, E7⟩) | ((with_reducible refine (HN2.out _).mono ?_); rintro e w8 ⟨A8, m8, cap8, rfl, R8, E8⟩; have S3 := SetIn.made [((A7, m7, cap7), ([1].map numV, 2, 0)), ((A8, m8, cap8), ([2].map numV, 1, 0))] 2 rfl (by decide) w8 #[.slice A7 m7 cap7, .complex .f64 4611686018427387904 0, .slice A8 m8 cap8, .complex .f64 4607182418800017408 0] (by simp [jcells, jrow, jtal, fl_zero, fl_1, fl_2]) (two_rows (R7.ev E8) R8) [(r1, 2, 0), (r2, 1, 0)] rfl; have SK8 := ((SK.ev E7).ev E8).ev (Ev.alloc w8 (.cells #[.slice A7 m7 cap7, .complex .f64 4611686018427387904 0, .slice A8 m8 cap8, .complex .f64 4607182418800017408 0] 31))) | ((with_reducible refine (HSA.out _ _ _ _ _ SK8 S3).mono ?_); rintro e w9 ⟨rfl, E9⟩))
  go_ret
  exact ⟨rfl, (((T.trans E7).trans E8).trans (Ev.alloc _ _)).trans E9⟩
end Go.Proofs.Ytcenjjoadhfhaaa
