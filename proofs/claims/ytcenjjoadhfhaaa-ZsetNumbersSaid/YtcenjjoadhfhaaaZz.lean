/-
  The walk of ZsetNumbers.
-/
import Derived.Test.YtcenjjoadhfhaaaZv
namespace Go.Proofs.Ytcenjjoadhfhaaa
open Go.RowKit
set_option linter.unusedVariables false

theorem fl_3 : fl 3 = 4613937818241073152 := by decide +kernel
theorem Bs.made6 (l : List UInt8) (n : Nat) (hn : l.length = n) (hm : n ≤ 1000) (w : World) (cs : Array Value) (hc : cs = (bvs l).toArray) : Bs (w.alloc (.cells cs 5)) (some ⟨w.heap.size, 0, none⟩) n n l :=
  ⟨hn, Nat.le_refl _, by omega, by simp, fun _ => ⟨w.heap.size, 0, rfl, by simp, fun i hi => by
    rw [Lib.cell_of_heap (heap_alloc_new w _), hc, Nat.zero_add, List.getElem?_toArray]
    exact bvs_at (by omega)⟩⟩
theorem three_rows {w : World} {A1 A2 A3 : Option Addr} {m1 c1 m2 c2 m3 c3 : Nat} {k1 k2 k3 : List Int} {p1 q1 p2 q2 p3 q3 : Int} (h1 : NumRow k1 w A1 m1 c1) (h2 : NumRow k2 w A2 m2 c2) (h3 : NumRow k3 w A3 m3 c3) :
    ∀ z ∈ [(((A1, m1, c1), (k1.map numV, p1, q1)) : J), ((A2, m2, c2), (k2.map numV, p2, q2)), ((A3, m3, c3), (k3.map numV, p3, q3))], RowLies w.heap.size w z := fun z hz => by
  simp only [List.mem_cons, List.not_mem_nil, or_false] at hz
  rcases hz with rfl | rfl | rfl
  · exact h1.lies _ _
  · exact h2.lies _ _
  · exact h3.lies _ _
theorem one_row {w : World} {A1 : Option Addr} {m1 c1 : Nat} {k1 : List Int} {p1 q1 : Int} (h1 : NumRow k1 w A1 m1 c1) : ∀ z ∈ [(((A1, m1, c1), (k1.map numV, p1, q1)) : J)], RowLies w.heap.size w z := fun z hz => by
  rw [List.mem_singleton.1 hz]
  exact h1.lies _ _
theorem no_row {w : World} {p1 q1 : Int} : ∀ z ∈ [(((none, 0, 0), ([], p1, q1)) : J)], RowLies w.heap.size w z := fun z hz => by
  rw [List.mem_singleton.1 hz]
  exact ⟨Sl.nil_ w, fun ad e => by cases e⟩

def bytes20 : List UInt8 := [1, 0, 1, 1, 0, 0, 0, 0, 0, 0, 0, 0, 0, 0, 0, 0, 0, 0, 0, 0]
abbrev s3 : List I := [(r1, 0, 3)]
theorem dec_a : decF bytes20 = (12, []) := by decide +kernel
theorem dec_b : decF [0, 0] = (0, []) := by decide +kernel
theorem dec_kept {L : List UInt8} (h : ((rdSet L 0 0).1.all fun x => partB x.2.1 && partB x.2.2) = true) : ∀ x ∈ (rdSet L 0 0).1, KeptAs x.2.1 x.2.2 := fun x hx => KeptAs.part (parts_of h x hx).1 (parts_of h x hx).2
theorem decode_nil {L : List UInt8} (k : Nat) (ki : Int) (hk : (k : Int) = ki) (h : decF L = (k, [])) (hp : ((rdSet L 0 0).1.all fun x => partB x.2.1 && partB x.2.2) = true) (w : World) (A : Option Addr) (n cap : Nat) (hn : n ≤ 1000) (hB : Bs w A n cap L) :
    Calls Try.prog 7 #[.slice A n cap] w fun e w' => ∃ A' cap', e = .returned (.tuple #[.slice A' 0 cap', .int .i64 ki]) ∧ Ev w w' :=
  (decode_in w hB (by omega) (dec_kept hp)).mono fun e w' ⟨hr, hE⟩ => by
    rw [h] at hr
    obtain ⟨A', cap', he, _⟩ := hr
    exact ⟨A', cap', by rw [he, hk]; rfl, hE⟩
theorem set_s3 : setB s3 = true := by decide +kernel
theorem sum_s3 : sumN 0 s3 = some (-3) := by decide +kernel
theorem tot_s3 : totalV (setB s3) (sumN 0 s3) = .tuple #[.int .i64 (-3), .bool true] := by rw [set_s3, sum_s3]; rfl
theorem set_t : setB [(r1, 1125899906842624, 0), (r2, 1, 0)] = true := by decide +kernel
theorem sum_t : sumN 0 [(r1, 1125899906842624, 0), (r2, 1, 0)] = none := by decide +kernel
theorem tot_t : totalV (setB [(r1, 1125899906842624, 0), (r2, 1, 0)]) (sumN 0 [(r1, 1125899906842624, 0), (r2, 1, 0)]) = .tuple #[.int .i64 0, .bool false] := by rw [set_t, sum_t]; rfl
theorem plain_s3 : plainB s3 = false := by decide +kernel
theorem plain_nil : plainB [] = true := by decide +kernel
theorem set_u : setB [(r1, 2, 1)] = false := by decide +kernel
theorem find_1 : s3.find? (fun x => sameR x.1 r1) = some (r1, 0, 3) := by decide +kernel
theorem find_2 : s3.find? (fun x => sameR x.1 r2) = none := by decide +kernel
theorem of_1 : cond (setB s3) (ofV s3 r1) (.complex .f64 0 0) = .complex .f64 0 4613937818241073152 := by
  rw [set_s3]
  show ofV s3 r1 = _
  unfold ofV
  rw [find_1]
  simp only [fl_zero, fl_3]
theorem of_2 : cond (setB s3) (ofV s3 r2) (.complex .f64 0 0) = .complex .f64 0 0 := by
  rw [set_s3]
  show ofV s3 r2 = _
  unfold ofV
  rw [find_2]
theorem neg_tallies : ∀ x ∈ [((r1, 1125899906842624, 0) : I), (r1, 1, 0), (r2, -1, 0)], TallyAs x.2.1 x.2.2 := fun x hx => by
  simp only [List.mem_cons, List.not_mem_nil, or_false] at hx
  rcases hx with rfl | rfl | rfl
  · exact TallyAs.part (partB_iff.1 (by decide +kernel)) (partB_iff.1 (by decide +kernel))
  · exact TallyAs.part (partB_iff.1 (by decide +kernel)) (partB_iff.1 (by decide +kernel))
  · exact tally_neg

set_option maxRecDepth 100000 in
set_option maxHeartbeats 16000000 in
theorem zn_walk (w : World) :
    Calls Try.prog 3 #[] w fun e w' => e = .returned (.bool true) ∧ Ev w w' := by
  have HN1 := Lib.hid (fun w1 => nums_row [1] 1 rfl (by decide) (by decide) w1 #[.int .i64 1] rfl)
  have HN2 := Lib.hid (fun w1 => nums_row [2] 1 rfl (by decide) (by decide) w1 #[.int .i64 2] rfl)
  have HMa := Lib.hid (fun w1 A cap h => make_err 1 1 rfl mk_a (tallies_of (parts_of (by decide +kernel))) w1 A 1 cap (by decide) h)
  have HMb := Lib.hid (fun w1 A cap h => make_err 27 27 rfl mk_b (tallies_of (parts_of (by decide +kernel))) w1 A 3 cap (by decide) h)
  have HMc := Lib.hid (fun w1 A cap h => make_err 1 1 rfl mk_c neg_tallies w1 A 3 cap (by decide) h)
  have HMd := Lib.hid (fun w1 A cap h => make_ok 1 rfl mk_d (tallies_of (parts_of (by decide +kernel))) w1 A 1 cap (by decide) h)
  have PS : PartsI s3 := parts_of (by decide +kernel)
  have HT1 : Hid (∀ w1 A cap, SetIn s3 w1 A 1 cap → Calls Try.prog 6 #[.slice A 1 cap] w1 fun e w' => e = .returned (.tuple #[.int .i64 (-3), .bool true]) ∧ Ev w1 w') := Lib.hid (fun w1 A cap h => tot_s3 ▸ total_in w1 h PS)
  have HT2 : Hid (∀ w1 A cap, SetIn [(r1, 1125899906842624, 0), (r2, 1, 0)] w1 A 2 cap → Calls Try.prog 6 #[.slice A 2 cap] w1 fun e w' => e = .returned (.tuple #[.int .i64 0, .bool false]) ∧ Ev w1 w') := Lib.hid (fun w1 A cap h => tot_t ▸ total_in w1 h (parts_of (by decide +kernel)))
  have HD1 := Lib.hid (fun w1 A cap h => decode_nil 12 12 rfl dec_a (by decide +kernel) w1 A 20 cap (by decide) h)
  have HD2 := Lib.hid (fun w1 A cap h => decode_nil 0 0 rfl dec_b (by decide +kernel) w1 A 2 cap (by decide) h)
  have HP1 : Hid (∀ w1 A cap, SetIn s3 w1 A 1 cap → Calls Try.prog 10 #[.slice A 1 cap] w1 fun e w' => e = .returned (.bool false) ∧ Ev w1 w') := Lib.hid (fun w1 A cap h => plain_s3 ▸ plain_in w1 h PS)
  have HP0 : Hid (∀ w1, Calls Try.prog 10 #[.slice none 0 0] w1 fun e w' => e = .returned (.bool true) ∧ Ev w1 w') := Lib.hid (fun w1 => plain_nil ▸ plain_in w1 (SetIn.nil_ w1) (fun _ h => by cases h))
  have HR1 : Hid (∀ w1 A cap, SetIn s3 w1 A 1 cap → Calls Try.prog 11 #[.slice A 1 cap] w1 fun e w' => e = .returned (.bool true) ∧ Ev w1 w') := Lib.hid (fun w1 A cap h => set_s3 ▸ right_in w1 h PS)
  have HR2 : Hid (∀ w1 A cap, SetIn [(r1, 2, 1)] w1 A 1 cap → Calls Try.prog 11 #[.slice A 1 cap] w1 fun e w' => e = .returned (.bool false) ∧ Ev w1 w') := Lib.hid (fun w1 A cap h => set_u ▸ right_in w1 h (parts_of (by decide +kernel)))
  have HO1 : Hid (∀ w1 A cap A' n' cap', SetIn s3 w1 A 1 cap → NumRow [1] w1 A' n' cap' → Calls Try.prog 12 #[.slice A 1 cap, .slice A' n' cap'] w1 fun e w' => e = .returned (.complex .f64 0 4613937818241073152) ∧ Ev w1 w') := Lib.hid (fun w1 A cap A' n' cap' h hr => of_1 ▸ of_in w1 h PS hr.1)
  have HO2 : Hid (∀ w1 A cap A' n' cap', SetIn s3 w1 A 1 cap → NumRow [2] w1 A' n' cap' → Calls Try.prog 12 #[.slice A 1 cap, .slice A' n' cap'] w1 fun e w' => e = .returned (.complex .f64 0 0) ∧ Ev w1 w') := Lib.hid (fun w1 A cap A' n' cap' h hr => of_2 ▸ of_in w1 h PS hr.1)
  have HKO : Hid (∀ w1 A n cap, NumRow [1] w1 A n cap → Calls Try.prog 9 #[.int .i64 (-3), .slice A n cap] w1 fun e w' => ∃ B, e = .returned (.slice B 1 1) ∧ SetIn s3 w' B 1 1 ∧ Ev w1 w') := Lib.hid (fun w1 A n cap h => keep_one (-3) (by omega) (by omega) w1 h)
  have HSS : Hid (∀ w1 A B cap cap', SetIn s3 w1 A 1 cap → SetIn s3 w1 B 1 cap' → Calls Try.prog 8 #[.slice A 1 cap, .slice B 1 cap'] w1 fun e w' => e = .returned (.bool true) ∧ Ev w1 w') := Lib.hid (fun w1 A B cap cap' h h' => by
    have := same_in w1 h h' PS PS
    rwa [decide_eq_true rfl] at this)
  have HKN := Lib.hid (fun w1 => known6 w1)
  clear PS
  have SA := SetIn.made [((none, 0, 0), ([], 1, 0))] 1 rfl (by decide) w #[.slice none 0 0, .complex .f64 4607182418800017408 0] (by simp [jcells, jrow, jtal, fl_zero, fl_1]) no_row [([], 1, 0)] rfl
  go_enter Try.func3, Try.ntmps3
  go_upto_region 3 with (first | ((with_reducible refine (HMa.out _ _ _ SA).mono ?_); rintro e wa ⟨Az, capz, rfl, Ea⟩))
  have T := (Ev.alloc _ _).trans Ea
  clear SA Ea
  go_upto_region 4 with (first | (have hh := Ra; (with_reducible refine (HN1.out _).mono ?_); rintro e wc ⟨Ab, mb, capb, rfl, Rb, Eb⟩) | ((with_reducible refine (HN1.out _).mono ?_); rintro e wb ⟨Aa, ma, capa, rfl, Ra, Ea⟩) | ((with_reducible refine (HN2.out _).mono ?_); rintro e wd ⟨Ac, mc, capc, rfl, Rc, Ec⟩; have S1 := SetIn.made [((Aa, ma, capa), ([1].map numV, 1125899906842624, 0)), ((Ab, mb, capb), ([1].map numV, 1, 0)), ((Ac, mc, capc), ([2].map numV, 1, 0))] 3 rfl (by decide) wd #[.slice Aa ma capa, .complex .f64 4832362400168542208 0, .slice Ab mb capb, .complex .f64 4607182418800017408 0, .slice Ac mc capc, .complex .f64 4607182418800017408 0] (by simp [jcells, jrow, jtal, fl_zero, fl_1, fl_most]) (three_rows ((Ra.ev Eb).ev Ec) (Rb.ev Ec) Rc) [(r1, 1125899906842624, 0), (r1, 1, 0), (r2, 1, 0)] rfl) | ((with_reducible refine (HMb.out _ _ _ S1).mono ?_); rintro e w3 ⟨Aw3, capw3, rfl, Ee⟩))
  replace T := ((((T.trans Ea).trans Eb).trans Ec).trans (Ev.alloc _ _)).trans Ee
  clear S1 Ra Rb Rc Ea Eb Ec Ee
  go_upto_region 5 with (first | (have hh := Ra; (with_reducible refine (HN1.out _).mono ?_); rintro e wc ⟨Ab, mb, capb, rfl, Rb, Eb⟩) | ((with_reducible refine (HN1.out _).mono ?_); rintro e wb ⟨Aa, ma, capa, rfl, Ra, Ea⟩) | ((with_reducible refine (HN2.out _).mono ?_); rintro e wd ⟨Ac, mc, capc, rfl, Rc, Ec⟩; have S1 := SetIn.made [((Aa, ma, capa), ([1].map numV, 1125899906842624, 0)), ((Ab, mb, capb), ([1].map numV, 1, 0)), ((Ac, mc, capc), ([2].map numV, -1, 0))] 3 rfl (by decide) wd #[.slice Aa ma capa, .complex .f64 4832362400168542208 0, .slice Ab mb capb, .complex .f64 4607182418800017408 0, .slice Ac mc capc, .complex .f64 13830554455654793216 0] (by simp [jcells, jrow, jtal, fl_zero, fl_1, fl_m1, fl_most]) (three_rows ((Ra.ev Eb).ev Ec) (Rb.ev Ec) Rc) [(r1, 1125899906842624, 0), (r1, 1, 0), (r2, -1, 0)] rfl) | ((with_reducible refine (HMc.out _ _ _ S1).mono ?_); rintro e w4 ⟨Aw4, capw4, rfl, Ee⟩))
  replace T := ((((T.trans Ea).trans Eb).trans Ec).trans (Ev.alloc _ _)).trans Ee
  clear S1 Ra Rb Rc Ea Eb Ec Ee
  go_upto_region 6 with (first | ((with_reducible refine (HN1.out _).mono ?_); rintro e wb ⟨Aa, ma, capa, rfl, Ra, Ea⟩; have S1 := SetIn.made [((Aa, ma, capa), ([1].map numV, 2, 5))] 1 rfl (by decide) wb #[.slice Aa ma capa, .complex .f64 4611686018427387904 4617315517961601024] (by simp [jcells, jrow, jtal, fl_2, fl_5]) (one_row Ra) [(r1, 2, 5)] rfl) | ((with_reducible refine (HMd.out _ _ _ S1).mono ?_); rintro e w5 ⟨As, caps, rfl, SS, Ee⟩))
  replace T := ((T.trans Ea).trans (Ev.alloc _ _)).trans Ee
  clear S1 Ra Ea Ee
  go_upto_region 7 with (first | ((with_reducible refine (HT1.out _ _ _ SS).mono ?_); rintro e w6 ⟨rfl, Ee⟩))
  replace T := T.trans Ee
  replace SS := SS.ev Ee
  clear Ee
  go_upto_region 8 with (first | ((with_reducible refine (HN1.out _).mono ?_); rintro e wb ⟨Aa, ma, capa, rfl, Ra, Ea⟩) | ((with_reducible refine (HN2.out _).mono ?_); rintro e wc ⟨Ab, mb, capb, rfl, Rb, Eb⟩; have S1 := SetIn.made [((Aa, ma, capa), ([1].map numV, 1125899906842624, 0)), ((Ab, mb, capb), ([2].map numV, 1, 0))] 2 rfl (by decide) wc #[.slice Aa ma capa, .complex .f64 4832362400168542208 0, .slice Ab mb capb, .complex .f64 4607182418800017408 0] (by simp [jcells, jrow, jtal, fl_zero, fl_1, fl_most]) (two_rows (Ra.ev Eb) Rb) [(r1, 1125899906842624, 0), (r2, 1, 0)] rfl) | ((with_reducible refine (HT2.out _ _ _ S1).mono ?_); rintro e w7 ⟨rfl, Ee⟩))
  have T2 := ((Ea.trans Eb).trans (Ev.alloc _ _)).trans Ee
  replace T := T.trans T2
  replace SS := SS.ev T2
  clear S1 Ra Rb Ea Eb Ee T2
  have B1 := Bs.made6 bytes20 20 rfl (by decide) w7 #[.int .u8 1, .int .u8 0, .int .u8 1, .int .u8 1, .int .u8 0, .int .u8 0, .int .u8 0, .int .u8 0, .int .u8 0, .int .u8 0, .int .u8 0, .int .u8 0, .int .u8 0, .int .u8 0, .int .u8 0, .int .u8 0, .int .u8 0, .int .u8 0, .int .u8 0, .int .u8 0] rfl
  go_upto_region 9 with (first | ((with_reducible refine (HD1.out _ _ _ B1).mono ?_); rintro e w8 ⟨Af, capf, rfl, Ee⟩))
  have T2 := (Ev.alloc w7 (.cells #[.int .u8 1, .int .u8 0, .int .u8 1, .int .u8 1, .int .u8 0, .int .u8 0, .int .u8 0, .int .u8 0, .int .u8 0, .int .u8 0, .int .u8 0, .int .u8 0, .int .u8 0, .int .u8 0, .int .u8 0, .int .u8 0, .int .u8 0, .int .u8 0, .int .u8 0, .int .u8 0] 5)).trans Ee
  replace T := T.trans T2
  replace SS := SS.ev T2
  clear B1 Ee T2
  have B1 := Bs.made6 [0, 0] 2 rfl (by decide) w8 #[.int .u8 0, .int .u8 0] rfl
  go_upto_region 10 with (first | ((with_reducible refine (HD2.out _ _ _ B1).mono ?_); rintro e w9 ⟨Ag, capg, rfl, Ee⟩))
  have T2 := (Ev.alloc w8 (.cells #[.int .u8 0, .int .u8 0] 5)).trans Ee
  replace T := T.trans T2
  replace SS := SS.ev T2
  clear B1 Ee T2
  have o3 : FloatKind.f64.format.order 4613937818241073152 4613937818241073152 = some .eq := by decide +kernel
  have o0 : FloatKind.f64.format.order 0 0 = some .eq := by decide +kernel
  go_wp2_with (first
    | ((with_reducible refine (HN1.out _).mono ?_); rintro e x ⟨Ap, mp, capp, rfl, Rp, Ee⟩; replace T := T.trans Ee; replace SS := SS.ev Ee; have SL := SetIn.made [((Ap, mp, capp), ([1].map numV, 2, 1))] 1 rfl (by decide) x #[.slice Ap mp capp, .complex .f64 4611686018427387904 4607182418800017408] (by simp [jcells, jrow, jtal, fl_1, fl_2]) (one_row Rp) [(r1, 2, 1)] rfl)
    | ((with_reducible refine (HN2.out _).mono ?_); rintro e x ⟨Aq, mq, capq, rfl, Rq, Ee⟩; replace T := T.trans Ee; replace SS := SS.ev Ee)
    | ((with_reducible refine (HKO.out _ _ _ _ Rp).mono ?_); rintro e x ⟨B, rfl, SO, Ee⟩; replace T := T.trans Ee; replace SS := SS.ev Ee)
    | ((with_reducible refine (HSS.out _ _ _ _ _ SS SO).mono ?_); rintro e x ⟨rfl, Ee⟩; replace T := T.trans Ee; replace SS := SS.ev Ee)
    | ((with_reducible refine (HP1.out _ _ _ SS).mono ?_); rintro e x ⟨rfl, Ee⟩; replace T := T.trans Ee; replace SS := SS.ev Ee)
    | ((with_reducible refine (HP0.out _).mono ?_); rintro e x ⟨rfl, Ee⟩; replace T := T.trans Ee; replace SS := SS.ev Ee)
    | ((with_reducible refine (HR1.out _ _ _ SS).mono ?_); rintro e x ⟨rfl, Ee⟩; replace T := T.trans Ee; replace SS := SS.ev Ee)
    | ((with_reducible refine (HR2.out _ _ _ SL).mono ?_); rintro e x ⟨rfl, Ee⟩; replace T := (T.trans (Ev.alloc _ _)).trans Ee; replace SS := (SS.ev (Ev.alloc _ _)).ev Ee)
    | ((with_reducible refine (HO2.out _ _ _ _ _ _ SS Rq).mono ?_); rintro e x ⟨rfl, Ee⟩; replace T := T.trans Ee; replace SS := SS.ev Ee)
    | ((with_reducible refine (HO1.out _ _ _ _ _ _ SS Rp).mono ?_); rintro e x ⟨rfl, Ee⟩; replace T := T.trans Ee; replace SS := SS.ev Ee)
    | ((with_reducible refine (HKN.out _).mono ?_); rintro e x ⟨rfl, Ee⟩; replace T := T.trans Ee))
  go_ret
  exact ⟨rfl, T⟩
end Go.Proofs.Ytcenjjoadhfhaaa
