/-
  Texts that belong together: The walk of ExprText.
-/
import Derived.Test.YtnljagmpeifikaaZ21T
import Derived.Test.YtnljagmpeifikaaZ19T
import Derived.Test.YtnljagmpeifikaaZ20T
namespace Go.Proofs.Ytnljagmpeifikaa
open Go.RowKit
set_option linter.unusedVariables false

set_option maxRecDepth 100000 in
set_option maxHeartbeats 32000000 in
theorem text_walk (s0 : ByteArray) (a b : Int) (t0 : ByteArray) (w : World) (u0 : s0.size ≤ maxLen) (ha : i64R a) (hb : i64R b) (u3 : t0.size ≤ maxLen) :
    Calls Try.prog 4 #[.string s0, .int .i64 a, .int .i64 b, .string t0] w fun e w' => e = .returned (.bool true) ∧ Ev w w' := by
  have hmix : Try.prog.follows .mixedOrders = true := by kernel_rfl
  unfold maxLen at u0 u3
  have HA := Lib.hid ha
  have HB := Lib.hid hb
  clear ha hb
  go_enter Try.func4, Try.ntmps4
  go_upto_if 29 with fail
  go_cut [0] (fun v wx => ∃ s1 : ByteArray, v = .string s1 ∧ s1.size ≤ 600 ∧ w = wx)
  case first =>
    by_cases hs : (600 : Int) < (s0.size : Int)
    · have hz : (s0.extract 0 600).size = 600 := by
        have h1 : (s0.extract 0 600).data.toList.length = (s0.extract 0 600).size := by rw [Array.length_toList]; rfl
        have h2 : s0.data.toList.length = s0.size := by rw [Array.length_toList]; rfl
        rw [← h1, Lib.extract_eq, List.drop_zero, List.length_take, h2]
        omega
      have HZ := Lib.hid hz
      have i1 : (600 : Int) ≤ (s0.size : Int) := by omega
      clear hz
      go_wp2_with fail
      go_meet
      exact ⟨s0.extract 0 600, rfl, by rw [HZ.out]; exact Nat.le_refl _, rfl⟩
    · go_wp2_with fail
      go_meet
      exact ⟨s0, rfl, by omega, rfl⟩
  case rest =>
  obtain ⟨s1, rfl, hs1, rfl⟩ := hcut
  go_upto_if 34 with fail
  go_cut [3] (fun v wx => ∃ s1 : ByteArray, v = .string s1 ∧ s1.size ≤ 41 ∧ w = wx)
  case first =>
    by_cases hs : (41 : Int) < (t0.size : Int)
    · have hz : (t0.extract 0 41).size = 41 := by
        have h1 : (t0.extract 0 41).data.toList.length = (t0.extract 0 41).size := by rw [Array.length_toList]; rfl
        have h2 : t0.data.toList.length = t0.size := by rw [Array.length_toList]; rfl
        rw [← h1, Lib.extract_eq, List.drop_zero, List.length_take, h2]
        omega
      have HZ := Lib.hid hz
      have i1 : (41 : Int) ≤ (t0.size : Int) := by omega
      clear hz
      go_wp2_with fail
      go_meet
      exact ⟨t0.extract 0 41, rfl, by rw [HZ.out]; exact Nat.le_refl _, rfl⟩
    · go_wp2_with fail
      go_meet
      exact ⟨t0, rfl, by omega, rfl⟩
  case rest =>
  obtain ⟨t1, rfl, ht1, rfl⟩ := hcut
  clear u0 u3
  have hsm := rf_small s1.data.toList
  have HR := fun w1 => rf_read s1 w1 (by omega)
  have HKn := Lib.hid (fun w1 => known8_any w1)
  unfold ReadOut at HR
  generalize rfRead s1.data.toList = R at *
  obtain ⟨Rt, Rw, Rp⟩ := R
  simp only at HR hsm
  by_cases hw : Rw = 0
  · subst hw
    have HR := Lib.hid HR
    obtain ⟨hfair, hsz⟩ := hsm
    have HO := Lib.hid (fun (m : M) w0 w1 (hm : m.t = Rt) (hL : Lies w0 [] w1 m) => by
      have h := law8_out m.dep m w0 w1 (Nat.le_refl _) hL (by rw [hm]; omega)
      unfold mv M.kv at h
      exact h)
    have HRD := Lib.hid (fun (m : M) w0 w1 (hm : m.t = Rt) (hL : Lies w0 [] w1 m) => by
      have h := ex_Read m w0 w1 hL (by rw [hm]; exact hfair) (by rw [hm]; omega)
      rw [hm] at h
      exact h)
    have HRX := Lib.hid (fun (m : M) w0 w1 (hm : m.t = Rt) (hL : Lies w0 [] w1 m) => by
      have h := rx_read m.dep m w0 w1 (Nat.le_refl _) hL (by rw [hm]; exact hfair) (by rw [hm]; omega)
      unfold mv M.kv at h
      rw [hm] at h
      exact h)
    have hxf := xRead_fair Rt hfair
    have hxz := xRead_size Rt
    have HXF := Lib.hid hxf
    have HXZ : Hid ((xRead Rt).1.size ≤ 601) := Lib.hid (by omega)
    clear hfair hsz hxf hxz
    unfold TrOut at HO
    unfold RxOut at HRD HRX
    generalize xRead Rt = RR at *
    obtain ⟨RT, RE, RP⟩ := RR
    simp only at HRD HRX HXF HXZ
    go_upto_region 10 with (first
      | ((with_reducible refine (HR.out _).mono ?_); rintro r w1 ⟨m, rfl, hmt, hml, hE1⟩; simp only []; have HMT := Lib.hid hmt; have HML := Lib.hid (hml.ev (Ev.alloc w1 (.cells #[.int .i64 m.kind, .string ⟨m.s.toArray⟩, .int .i64 m.n, .slice m.A m.kids.length m.cap, .int .i64 (m.pos : Int)] 34))); have HE1 := Lib.hid (hE1.trans (Ev.alloc w1 (.cells #[.int .i64 m.kind, .string ⟨m.s.toArray⟩, .int .i64 m.n, .slice m.A m.kids.length m.cap, .int .i64 (m.pos : Int)] 34))); have BM := Lib.hid (Bx.new 34 #[.int .i64 m.kind, .string ⟨m.s.toArray⟩, .int .i64 m.n, .slice m.A m.kids.length m.cap, .int .i64 (m.pos : Int)] w1); clear hmt hml; obtain ⟨⟨c0, c1, c2, c3, c4⟩, _⟩ := BM.out.five)
      | ((with_reducible refine (HO.out m _ _ HMT.out HML.out).mono ?_); rintro r w2 ⟨m2, rfl, hm2t, hm2l, hE2⟩; have HM2T := Lib.hid (hm2t.trans HMT.out); have HM2L := Lib.hid hm2l; have HE2 := Lib.hid hE2; clear hm2t hm2l)
      | ((with_reducible refine (HRD.out m2 _ _ HM2T.out HM2L.out).mono ?_); rintro r w3 ⟨x1, rfl, hx1t, hx1l, hE3⟩; simp only []; have HX1T := Lib.hid hx1t; have HX1L := Lib.hid hx1l; have HE3 := Lib.hid ((HE2.out.trans hE3).trans (Ev.alloc w3 (.cells #[.int .i64 x1.kind, .string ⟨x1.s.toArray⟩, .int .i64 x1.n, .slice x1.A x1.kids.length x1.cap] 39))); have BX1 := Lib.hid (Bx.new 39 #[.int .i64 x1.kind, .string ⟨x1.s.toArray⟩, .int .i64 x1.n, .slice x1.A x1.kids.length x1.cap] w3); clear hx1t hx1l c0 c1 c2 c3 c4; obtain ⟨⟨c0, c1, c2, c3, c4⟩, _⟩ := (BM.out.ev HE3.out).five)
      | ((with_reducible refine (HRX.out m _ _ HMT.out (HML.out.ev HE3.out)).mono ?_); rintro r w4 ⟨x2, rfl, hx2t, hx2l, hE4⟩; simp only []; have HX2T := Lib.hid hx2t; have HX2L := Lib.hid hx2l; have HE4 := Lib.hid (hE4.trans (Ev.alloc w4 (.cells #[.int .i64 x2.kind, .string ⟨x2.s.toArray⟩, .int .i64 x2.n, .slice x2.A x2.kids.length x2.cap] 39))); have BX2 := Lib.hid (Bx.new 39 #[.int .i64 x2.kind, .string ⟨x2.s.toArray⟩, .int .i64 x2.n, .slice x2.A x2.kids.length x2.cap] w4); clear hx2t hx2l c0 c1 c2 c3 c4; obtain ⟨⟨c0, c1, c2, c3⟩, _⟩ := (BX1.out.ev HE4.out).four; obtain ⟨⟨d0, d1, d2, d3⟩, _⟩ := BX2.out.four))
    have hL1 := (HX1L.out.ev ((Ev.alloc w3 (.cells #[.int .i64 x1.kind, .string ⟨x1.s.toArray⟩, .int .i64 x1.n, .slice x1.A x1.kids.length x1.cap] 39)).trans HE4.out)).low0
    have hL2 := (HX2L.out.ev (Ev.alloc w4 (.cells #[.int .i64 x2.kind, .string ⟨x2.s.toArray⟩, .int .i64 x2.n, .slice x2.A x2.kids.length x2.cap] 39))).low0
    have hb1 := BX1.out.ev HE4.out
    have hb2 := BX2.out
    have hall := (HE1.out.trans HE3.out).trans HE4.out
    generalize hu4 : w4.alloc (.cells #[.int .i64 x2.kind, .string ⟨x2.s.toArray⟩, .int .i64 x2.n, .slice x2.A x2.kids.length x2.cap] 39) = u4 at *
    generalize w4.heap.size = gx at *
    generalize w3.heap.size = gy at *
    have HXT := Lib.hid HX2T.out
    have hKE : Calls Try.prog 13 #[.slice (some ⟨u4.heap.size, 0, none⟩) 1 1, .slice (some ⟨u4.heap.size + 1, 0, none⟩) 1 1] ((u4.alloc (.cells #[.int .i64 x1.kind, .string ⟨x1.s.toArray⟩, .int .i64 x1.n, .slice x1.A x1.kids.length x1.cap] 39)).alloc (.cells #[.int .i64 x2.kind, .string ⟨x2.s.toArray⟩, .int .i64 x2.n, .slice x2.A x2.kids.length x2.cap] 39)) fun e w' => e = .returned (.bool true) ∧ Ev ((u4.alloc (.cells #[.int .i64 x1.kind, .string ⟨x1.s.toArray⟩, .int .i64 x1.n, .slice x1.A x1.kids.length x1.cap] 39)).alloc (.cells #[.int .i64 x2.kind, .string ⟨x2.s.toArray⟩, .int .i64 x2.n, .slice x2.A x2.kids.length x2.cap] 39)) w' := by
      have hA := Sl.one (et := 39) encE u4 x1 _ rfl
      have hB0 := Sl.one (et := 39) encE (u4.alloc (.cells #[.int .i64 x1.kind, .string ⟨x1.s.toArray⟩, .int .i64 x1.n, .slice x1.A x1.kids.length x1.cap] 39)) x2 _ rfl
      have hB : Es ((u4.alloc (.cells #[.int .i64 x1.kind, .string ⟨x1.s.toArray⟩, .int .i64 x1.n, .slice x1.A x1.kids.length x1.cap] 39)).alloc (.cells #[.int .i64 x2.kind, .string ⟨x2.s.toArray⟩, .int .i64 x2.n, .slice x2.A x2.kids.length x2.cap] 39)) (some ⟨u4.heap.size + 1, 0, none⟩) 1 1 [x2] := by
        rw [show (u4.alloc (.cells #[.int .i64 x1.kind, .string ⟨x1.s.toArray⟩, .int .i64 x1.n, .slice x1.A x1.kids.length x1.cap] 39)).heap.size = u4.heap.size + 1 by simp] at hB0
        exact hB0
      exact keep_exprs_one x1 x2 _ _ _ (hA.ev (Ev.alloc _ _)) hB (hL1.ev ((Ev.alloc _ _).trans (Ev.alloc _ _))) (hL2.ev ((Ev.alloc _ _).trans (Ev.alloc _ _))) (HX1T.out.trans HX2T.out.symm)
    have HKE := Lib.hid hKE
    have HB2 := Lib.hid hb2
    have HL2 := Lib.hid hL2
    have HALL := Lib.hid hall
    clear hu4 hKE hb2 hL2 hL1 hall HX1T HX1L HX2L HX2T BX1 BX2 BM HE1 HE2 HE3 HE4 HM2T HM2L HMT HML c0 c1 c2 c3 d0 d1 d2 d3
    obtain ⟨⟨c0, c1, c2, c3⟩, _⟩ := hb1.four
    obtain ⟨⟨d0, d1, d2, d3⟩, _⟩ := HB2.out.four
    obtain ⟨⟨d0', d1', d2', d3'⟩, _⟩ := (HB2.out.ev (Ev.alloc u4 (.cells #[.int .i64 x1.kind, .string ⟨x1.s.toArray⟩, .int .i64 x1.n, .slice x1.A x1.kids.length x1.cap] 39))).four
    clear hb1
    go_upto_if 74 with (first
      | ((with_reducible refine (HKE.out).mono ?_); rintro r w5 ⟨rfl, hE5⟩; have S1 : TxS2 w gx x2 none 0 0 [] w5 := ⟨HB2.out.ev (((Ev.alloc _ _).trans (Ev.alloc _ _)).trans hE5), HL2.out.ev (((Ev.alloc _ _).trans (Ev.alloc _ _)).trans hE5), Sl.nil_ _, (HALL.out.trans ((Ev.alloc _ _).trans (Ev.alloc _ _))).trans hE5⟩))
    clear c0 c1 c2 c3 d0 d1 d2 d3 d0' d1' d2' d3' HKE HB2 HL2 HALL
    generalize hxx : x2 = x at *
    have HN := Lib.hid (fun n w1 => keep_num n w1)
    have HST := Lib.hid (fun s w1 => keep_str s w1)
    go_upto_region 13 with (first
      | (have hh := S2; (with_reducible refine (HN.out _ _).mono ?_); rintro r w7 ⟨rfl, hE7⟩; have S3 := S2.ev hE7)
      | ((with_reducible refine (HN.out _ _).mono ?_); rintro r w6 ⟨rfl, hE6⟩; have S2 := S1.ev hE6)
      | ((with_reducible refine (HST.out _ _).mono ?_); rintro r w8 ⟨rfl, hE8⟩; have S4 := S3.ev hE8; have hrow : Vs (w8.alloc (.cells #[.int .i64 1, .int .i64 a, .string ⟨#[]⟩, .int .i64 1, .int .i64 b, .string ⟨#[]⟩, .int .i64 2, .int .i64 0, .string t1] 25)) (some ⟨w8.heap.size, 0, none⟩) 3 3 [numV a, numV b, (2, 0, t1)] := Vs.made [numV a, numV b, (2, 0, t1)] 3 rfl (by decide) w8 _ rfl; have S : TxS2 w gx x (some ⟨w8.heap.size, 0, none⟩) 3 3 [numV a, numV b, (2, 0, t1)] _ := ⟨S4.bx.ev (Ev.alloc _ _), S4.lx.ev (Ev.alloc _ _), hrow, S4.all.trans (Ev.alloc _ _)⟩))
    generalize hwv : w8.alloc (.cells #[.int .i64 1, .int .i64 a, .string ⟨#[]⟩, .int .i64 1, .int .i64 b, .string ⟨#[]⟩, .int .i64 2, .int .i64 0, .string t1] 25) = v12 at *
    generalize w8.heap.size = gr at *
    clear hwv hrow S1 S2 S3 S4
    have hfr : ∀ y ∈ [numV a, numV b, ((2 : Int), (0 : Int), t1)], fairV y := by
      intro y hy
      simp only [List.mem_cons, List.not_mem_nil, or_false] at hy
      rcases hy with rfl | rfl | rfl
      · exact fair_num HA.out
      · exact fair_num HB.out
      · exact fair_str (by omega)
    have hT1 := fun w1 (hE : Ev v12 w1) g (hC : Cs w1 (some ⟨g, 0, none⟩) 3 3 tcols) => ex_type x 0 w1 _ _ _ tcols (S.lx.ev hE) hC (by rw [HXT.out]; have := HXZ.out; omega) (fair_short (by rw [HXT.out]; exact HXF.out))
    have hT2 := fun w1 (hE : Ev v12 w1) g (hC : Cs w1 (some ⟨g, 0, none⟩) 3 3 tcols) => rx_type x 0 w1 _ _ _ tcols (S.lx.ev hE) hC (by rw [HXT.out]; have := HXZ.out; omega) (by rw [HXT.out]; exact HXF.out)
    have hE1 := fun w1 (hE : Ev v12 w1) g (hC : Cs w1 (some ⟨g, 0, none⟩) 3 3 tcols) => ex_eval x 0 w1 _ _ _ tcols _ _ _ _ (S.lx.ev hE) hC (S.v.ev hE) (by rw [HXT.out]; have := HXZ.out; omega) hfr (by rw [HXT.out]; exact HXF.out)
    have hE2 := fun w1 (hE : Ev v12 w1) g (hC : Cs w1 (some ⟨g, 0, none⟩) 3 3 tcols) => rx_Eval x 0 w1 _ _ _ tcols _ _ _ _ (S.lx.ev hE) hC (S.v.ev hE) (by rw [HXT.out]; have := HXZ.out; omega) hfr (by rw [HXT.out]; exact HXF.out)
    unfold ev_ M.kv at hT1 hT2 hE1 hE2
    unfold VOut at hE1 hE2
    generalize xType tcols x.t = TY at *
    obtain ⟨tk, ty⟩ := TY
    generalize xValue tcols [numV a, numV b, (2, 0, t1)] x.t = VY at *
    obtain ⟨⟨vk, vn, vs_⟩, vy⟩ := VY
    simp only at hT1 hT2 hE1 hE2
    have HT1 := Lib.hid hT1
    have HT2 := Lib.hid hT2
    have HE1a := Lib.hid hE1
    have HE2a := Lib.hid hE2
    have HTC := Lib.hid (fun w1 => keep_tF w1)
    have S0 := S
    clear hT1 hT2 hE1 hE2 hfr
    refine wp_region_slots hmix [fun v _ => v = .agg #[.int .i64 x.kind, .string ⟨x.s.toArray⟩, .int .i64 x.n, .slice x.A x.kids.length x.cap], ColsF, fun v _ => v = .tuple #[.int .i64 tk, .int .i64 ty], fun v _ => v = .tuple #[.int .i64 tk, .int .i64 ty], fun v _ => v = .int .i64 tk, fun v _ => v = .int .i64 ty, fun v _ => v = .int .i64 tk, fun v _ => v = .int .i64 ty]
      129 rfl (by kernel_rfl) ⟨mono_eq _, ColsF.mono, mono_eq _, mono_eq _, mono_eq _, mono_eq _, mono_eq _, mono_eq _, trivial⟩ ?_ ?_
    · refine ops_cons 0 ?_ (ops_cons 1 ?_ (ops_cons 2 ?_ (ops_cons 3 ?_ (ops_cons 4 ?_ (ops_cons 5 ?_ (ops_cons 6 ?_ (ops_cons 7 ?_ (ops_nil 8))))))))
      · refine op_value fun a wq c => ⟨(wanted_plain rfl), _, run_load_box2 rfl ((c.was 15 (by kernel_rfl) rfl) : a.eval (.tmp 15) = .pointer (some ⟨gx, 0, none⟩)) (S.bx.ev c.ev) Try.underlying39 rfl Try.sizeExpr, rfl⟩
      · refine op_call fun a wq c => ⟨(wanted_plain rfl), 6, #[], ?_, ?_⟩
        · rw [run_call 6 _ _ rfl (by kernel_rfl)]
          simp
        · exact HTC.out wq
      · refine op_call fun a wq c => ?_
        obtain ⟨g_, cs_, eg_, _, hC_⟩ := (c.got 1 84 (by kernel_rfl) (by kernel_rfl) rfl : ColsF _ _)
        refine ⟨(wanted_plain rfl), 14, #[.agg #[.int .i64 x.kind, .string ⟨x.s.toArray⟩, .int .i64 x.n, .slice x.A x.kids.length x.cap], .slice (some ⟨g_, 0, none⟩) 3 3], ?_, ?_⟩
        · rw [run_call 14 _ _ rfl (by kernel_rfl)]
          have e_0 : a.eval (.tmp 83) = .agg #[.int .i64 x.kind, .string ⟨x.s.toArray⟩, .int .i64 x.n, .slice x.A x.kids.length x.cap] := (c.new 0 83 (by kernel_rfl) (by kernel_rfl))
          simp [e_0, eg_]
        · refine (HT1.out wq c.ev _ hC_).mono ?_
          rintro e wp ⟨rfl, hE⟩
          exact ⟨_, rfl, hE, rfl⟩
      · refine op_value fun a w c => ⟨(wanted_plain rfl), _, run_move _ rfl w, (c.new 2 85 (by kernel_rfl) (by kernel_rfl))⟩
      · refine op_value fun a w c => ⟨(wanted_plain rfl), .int .i64 tk, ?_, rfl⟩
        have e82 : a.eval (.tmp 82) = .tuple #[.int .i64 tk, .int .i64 ty] := (c.new 3 82 (by kernel_rfl) (by kernel_rfl))
        generalize a.eval = ρ at e82 ⊢
        simp [execOp, e82, go_sem]
      · refine op_value fun a w c => ⟨(wanted_plain rfl), .int .i64 ty, ?_, rfl⟩
        have e82 : a.eval (.tmp 82) = .tuple #[.int .i64 tk, .int .i64 ty] := (c.new 3 82 (by kernel_rfl) (by kernel_rfl))
        generalize a.eval = ρ at e82 ⊢
        simp [execOp, e82, go_sem]
      · refine op_value fun a w c => ⟨(wanted_plain rfl), _, run_assign _ rfl w, (c.new 4 86 (by kernel_rfl) (by kernel_rfl))⟩
      · refine op_value fun a w c => ⟨(wanted_plain rfl), _, run_assign _ rfl w, (c.new 5 87 (by kernel_rfl) (by kernel_rfl))⟩
    intro sl v13 hEr hold hnew
    have f15 : sl 15 = .pointer (some ⟨gx, 0, none⟩) := hold 15 (by kernel_rfl)
    have f18 : sl 18 = .slice (some ⟨gr, 0, none⟩) 3 3 := hold 18 (by kernel_rfl)
    have f19 : sl 19 = .int .i64 tk := hnew 6 19 (by kernel_rfl)
    have f20 : sl 20 = .int .i64 ty := hnew 7 20 (by kernel_rfl)
    have f82 : sl 82 = .tuple #[.int .i64 tk, .int .i64 ty] := hnew 3 82 (by kernel_rfl)
    have f83 : sl 83 = .agg #[.int .i64 x.kind, .string ⟨x.s.toArray⟩, .int .i64 x.n, .slice x.A x.kids.length x.cap] := hnew 0 83 (by kernel_rfl)
    have f85 : sl 85 = .tuple #[.int .i64 tk, .int .i64 ty] := hnew 2 85 (by kernel_rfl)
    have f86 : sl 86 = .int .i64 tk := hnew 4 86 (by kernel_rfl)
    have f87 : sl 87 = .int .i64 ty := hnew 5 87 (by kernel_rfl)
    change Exit.then _ _ .normal ⟨#[sl 0, sl 1, sl 2, sl 3, sl 4, sl 5, sl 6, sl 7, sl 8, sl 9, sl 10, sl 11, sl 12, sl 13, sl 14, sl 15, sl 16, sl 17, sl 18, sl 19, sl 20, sl 21, sl 22, sl 23, sl 24, sl 25, sl 26, sl 27, sl 28, sl 29, sl 30, sl 31, sl 32, sl 33, sl 34, sl 35, sl 36, sl 37, sl 38, sl 39, sl 40, sl 41, sl 42, sl 43, sl 44, sl 45, sl 46, sl 47, sl 48, sl 49, sl 50, sl 51, sl 52, sl 53, sl 54, sl 55, sl 56, sl 57, sl 58, sl 59, sl 60, sl 61, sl 62, sl 63, sl 64, sl 65, sl 66, sl 67, sl 68, sl 69, sl 70, sl 71, sl 72, sl 73, sl 74, sl 75, sl 76, sl 77, sl 78, sl 79, sl 80, sl 81, sl 82, sl 83, sl 84, sl 85, sl 86, sl 87, sl 88, sl 89, sl 90, sl 91, sl 92, sl 93, sl 94, sl 95, sl 96, sl 97, sl 98, sl 99, sl 100, sl 101, sl 102, sl 103, sl 104, sl 105, sl 106, sl 107, sl 108, sl 109, sl 110, sl 111, sl 112, sl 113, sl 114, sl 115, sl 116, sl 117, sl 118, sl 119, sl 120, sl 121, sl 122, sl 123, sl 124, sl 125, sl 126, sl 127, sl 128], _⟩ _
    simp only [f15, f18, f19, f20, f82, f83, f85, f86, f87]
    clear hold hnew
    have E13 := hEr
    replace S := S.ev hEr
    replace HT2 := Lib.hid (fun w1 (hE : Ev v13 w1) => HT2.out w1 (E13.trans hE))
    clear hEr
    go_upto_region 14 with fail
    refine wp_region_slots hmix [fun v _ => v = .agg #[.int .i64 x.kind, .string ⟨x.s.toArray⟩, .int .i64 x.n, .slice x.A x.kids.length x.cap], ColsF, fun v _ => v = .tuple #[.int .i64 tk, .int .i64 ty], fun v _ => v = .tuple #[.int .i64 tk, .int .i64 ty], fun v _ => v = .int .i64 tk, fun v _ => v = .int .i64 ty, fun v _ => v = .int .i64 tk, fun v _ => v = .int .i64 ty]
      129 rfl (by kernel_rfl) ⟨mono_eq _, ColsF.mono, mono_eq _, mono_eq _, mono_eq _, mono_eq _, mono_eq _, mono_eq _, trivial⟩ ?_ ?_
    · refine ops_cons 0 ?_ (ops_cons 1 ?_ (ops_cons 2 ?_ (ops_cons 3 ?_ (ops_cons 4 ?_ (ops_cons 5 ?_ (ops_cons 6 ?_ (ops_cons 7 ?_ (ops_nil 8))))))))
      · refine op_value fun a wq c => ⟨(wanted_plain rfl), _, run_load_box2 rfl ((c.was 15 (by kernel_rfl) rfl) : a.eval (.tmp 15) = .pointer (some ⟨gx, 0, none⟩)) (S.bx.ev c.ev) Try.underlying39 rfl Try.sizeExpr, rfl⟩
      · refine op_call fun a wq c => ⟨(wanted_plain rfl), 6, #[], ?_, ?_⟩
        · rw [run_call 6 _ _ rfl (by kernel_rfl)]
          simp
        · exact HTC.out wq
      · refine op_call fun a wq c => ?_
        obtain ⟨g_, cs_, eg_, _, hC_⟩ := (c.got 1 90 (by kernel_rfl) (by kernel_rfl) rfl : ColsF _ _)
        refine ⟨(wanted_plain rfl), 15, #[.agg #[.int .i64 x.kind, .string ⟨x.s.toArray⟩, .int .i64 x.n, .slice x.A x.kids.length x.cap], .slice (some ⟨g_, 0, none⟩) 3 3], ?_, ?_⟩
        · rw [run_call 15 _ _ rfl (by kernel_rfl)]
          have e_0 : a.eval (.tmp 89) = .agg #[.int .i64 x.kind, .string ⟨x.s.toArray⟩, .int .i64 x.n, .slice x.A x.kids.length x.cap] := (c.new 0 89 (by kernel_rfl) (by kernel_rfl))
          simp [e_0, eg_]
        · refine (HT2.out wq c.ev _ hC_).mono ?_
          rintro e wp ⟨rfl, hE⟩
          exact ⟨_, rfl, hE, rfl⟩
      · refine op_value fun a w c => ⟨(wanted_plain rfl), _, run_move _ rfl w, (c.new 2 91 (by kernel_rfl) (by kernel_rfl))⟩
      · refine op_value fun a w c => ⟨(wanted_plain rfl), .int .i64 tk, ?_, rfl⟩
        have e88 : a.eval (.tmp 88) = .tuple #[.int .i64 tk, .int .i64 ty] := (c.new 3 88 (by kernel_rfl) (by kernel_rfl))
        generalize a.eval = ρ at e88 ⊢
        simp [execOp, e88, go_sem]
      · refine op_value fun a w c => ⟨(wanted_plain rfl), .int .i64 ty, ?_, rfl⟩
        have e88 : a.eval (.tmp 88) = .tuple #[.int .i64 tk, .int .i64 ty] := (c.new 3 88 (by kernel_rfl) (by kernel_rfl))
        generalize a.eval = ρ at e88 ⊢
        simp [execOp, e88, go_sem]
      · refine op_value fun a w c => ⟨(wanted_plain rfl), _, run_assign _ rfl w, (c.new 4 92 (by kernel_rfl) (by kernel_rfl))⟩
      · refine op_value fun a w c => ⟨(wanted_plain rfl), _, run_assign _ rfl w, (c.new 5 93 (by kernel_rfl) (by kernel_rfl))⟩
    intro sl v14 hEr hold hnew
    have f15 : sl 15 = .pointer (some ⟨gx, 0, none⟩) := hold 15 (by kernel_rfl)
    have f18 : sl 18 = .slice (some ⟨gr, 0, none⟩) 3 3 := hold 18 (by kernel_rfl)
    have f19 : sl 19 = .int .i64 tk := hold 19 (by kernel_rfl)
    have f20 : sl 20 = .int .i64 ty := hold 20 (by kernel_rfl)
    have f21 : sl 21 = .int .i64 tk := hnew 6 21 (by kernel_rfl)
    have f22 : sl 22 = .int .i64 ty := hnew 7 22 (by kernel_rfl)
    have f88 : sl 88 = .tuple #[.int .i64 tk, .int .i64 ty] := hnew 3 88 (by kernel_rfl)
    have f89 : sl 89 = .agg #[.int .i64 x.kind, .string ⟨x.s.toArray⟩, .int .i64 x.n, .slice x.A x.kids.length x.cap] := hnew 0 89 (by kernel_rfl)
    have f91 : sl 91 = .tuple #[.int .i64 tk, .int .i64 ty] := hnew 2 91 (by kernel_rfl)
    have f92 : sl 92 = .int .i64 tk := hnew 4 92 (by kernel_rfl)
    have f93 : sl 93 = .int .i64 ty := hnew 5 93 (by kernel_rfl)
    change Exit.then _ _ .normal ⟨#[sl 0, sl 1, sl 2, sl 3, sl 4, sl 5, sl 6, sl 7, sl 8, sl 9, sl 10, sl 11, sl 12, sl 13, sl 14, sl 15, sl 16, sl 17, sl 18, sl 19, sl 20, sl 21, sl 22, sl 23, sl 24, sl 25, sl 26, sl 27, sl 28, sl 29, sl 30, sl 31, sl 32, sl 33, sl 34, sl 35, sl 36, sl 37, sl 38, sl 39, sl 40, sl 41, sl 42, sl 43, sl 44, sl 45, sl 46, sl 47, sl 48, sl 49, sl 50, sl 51, sl 52, sl 53, sl 54, sl 55, sl 56, sl 57, sl 58, sl 59, sl 60, sl 61, sl 62, sl 63, sl 64, sl 65, sl 66, sl 67, sl 68, sl 69, sl 70, sl 71, sl 72, sl 73, sl 74, sl 75, sl 76, sl 77, sl 78, sl 79, sl 80, sl 81, sl 82, sl 83, sl 84, sl 85, sl 86, sl 87, sl 88, sl 89, sl 90, sl 91, sl 92, sl 93, sl 94, sl 95, sl 96, sl 97, sl 98, sl 99, sl 100, sl 101, sl 102, sl 103, sl 104, sl 105, sl 106, sl 107, sl 108, sl 109, sl 110, sl 111, sl 112, sl 113, sl 114, sl 115, sl 116, sl 117, sl 118, sl 119, sl 120, sl 121, sl 122, sl 123, sl 124, sl 125, sl 126, sl 127, sl 128], _⟩ _
    simp only [f15, f18, f19, f20, f21, f22, f88, f89, f91, f92, f93]
    clear hold hnew
    have E14 := E13.trans hEr
    replace S := S.ev hEr
    have HE1 := Lib.hid (fun w1 (hE : Ev v14 w1) => HE1a.out w1 (E14.trans hE))
    clear hEr
    go_upto_region 15 with fail
    refine wp_region_slotsN hmix (JV (v14.heap.size)) 8 23 7 (BxV (v14.heap.size) vk vn vs_) [fun v _ => v = .agg #[.int .i64 x.kind, .string ⟨x.s.toArray⟩, .int .i64 x.n, .slice x.A x.kids.length x.cap], ColsF, fun v _ => v = .slice (some ⟨gr, 0, none⟩) 3 3, fun v _ => v = .tuple #[.agg #[.int .i64 vk, .int .i64 vn, .string vs_], .int .i64 vy], fun v _ => v = .tuple #[.agg #[.int .i64 vk, .int .i64 vn, .string vs_], .int .i64 vy], fun v _ => v = .agg #[.int .i64 vk, .int .i64 vn, .string vs_], fun v _ => v = .int .i64 vy, NewV (v14.heap.size), fun _ _ => True, fun v _ => v = .int .i64 vy]
      129 rfl (by kernel_rfl) ⟨mono_eq _, ColsF.mono, mono_eq _, mono_eq _, mono_eq _, mono_eq _, mono_eq _, NewV.mono _, mono_true, mono_eq _, trivial⟩ ⟨.inr (.inr fun _ _ _ _ h => h), .inr (.inr (ColsF.jump _)), .inr (.inr fun _ _ _ _ h => h), .inr (.inr fun _ _ _ _ h => h), .inr (.inr fun _ _ _ _ h => h), .inr (.inr fun _ _ _ _ h => h), .inr (.inr fun _ _ _ _ h => h), .inr (.inr (NewV.jump _ _)), .inl rfl, .inr (.inr fun _ _ _ _ h => h), trivial⟩ (BxV.mono _ _ _ _) _ rfl (by kernel_rfl) (by kernel_rfl) ?_ ?_ ?_
    · refine opn_cons 0 ?_ (opn_cons 1 ?_ (opn_cons 2 ?_ (opn_cons 3 ?_ (opn_cons 4 ?_ (opn_cons 5 ?_ (opn_cons 6 ?_ (opn_cons 7 ?_ (opn_store 8 (opn_cons 9 ?_ (opn_nil 10))))))))))
      · refine op_value fun a wq c => ⟨(wanted_plain rfl), _, run_load_box2 rfl ((c.was 15 (by kernel_rfl) rfl) : a.eval (.tmp 15) = .pointer (some ⟨gx, 0, none⟩)) (S.bx.ev c.ev) Try.underlying39 rfl Try.sizeExpr, rfl⟩
      · refine op_call fun a wq c => ⟨(wanted_plain rfl), 6, #[], ?_, ?_⟩
        · rw [run_call 6 _ _ rfl (by kernel_rfl)]
          simp
        · exact HTC.out wq
      · refine op_value fun a w c => ⟨(wanted_plain rfl), _, run_move _ rfl w, (c.was 18 (by kernel_rfl) rfl)⟩
      · refine op_call fun a wq c => ?_
        obtain ⟨g_, cs_, eg_, _, hC_⟩ := (c.got 1 96 (by kernel_rfl) (by kernel_rfl) rfl : ColsF _ _)
        refine ⟨(wanted_plain rfl), 16, #[.agg #[.int .i64 x.kind, .string ⟨x.s.toArray⟩, .int .i64 x.n, .slice x.A x.kids.length x.cap], .slice (some ⟨g_, 0, none⟩) 3 3, .slice (some ⟨gr, 0, none⟩) 3 3], ?_, ?_⟩
        · rw [run_call 16 _ _ rfl (by kernel_rfl)]
          have e_0 : a.eval (.tmp 95) = .agg #[.int .i64 x.kind, .string ⟨x.s.toArray⟩, .int .i64 x.n, .slice x.A x.kids.length x.cap] := (c.new 0 95 (by kernel_rfl) (by kernel_rfl))
          have e_1 : a.eval (.tmp 97) = .slice (some ⟨gr, 0, none⟩) 3 3 := (c.new 2 97 (by kernel_rfl) (by kernel_rfl))
          simp [e_0, e_1, eg_]
        · refine (HE1.out wq c.ev _ hC_).mono ?_
          rintro e wp ⟨rfl, hE⟩
          exact ⟨_, rfl, hE, rfl⟩
      · refine op_value fun a w c => ⟨(wanted_plain rfl), _, run_move _ rfl w, (c.new 3 98 (by kernel_rfl) (by kernel_rfl))⟩
      · refine op_value fun a w c => ⟨(wanted_plain rfl), .agg #[.int .i64 vk, .int .i64 vn, .string vs_], ?_, rfl⟩
        have e94 : a.eval (.tmp 94) = .tuple #[.agg #[.int .i64 vk, .int .i64 vn, .string vs_], .int .i64 vy] := (c.new 4 94 (by kernel_rfl) (by kernel_rfl))
        generalize a.eval = ρ at e94 ⊢
        simp [execOp, e94, go_sem]
      · refine op_value fun a w c => ⟨(wanted_plain rfl), .int .i64 vy, ?_, rfl⟩
        have e94 : a.eval (.tmp 94) = .tuple #[.agg #[.int .i64 vk, .int .i64 vn, .string vs_], .int .i64 vy] := (c.new 4 94 (by kernel_rfl) (by kernel_rfl))
        generalize a.eval = ρ at e94 ⊢
        simp [execOp, e94, go_sem]
      · refine op_makes fun a wq c => ⟨(wanted_plain rfl), _, _, run_alloc_val rfl, Ev.alloc _ _, NewV.new _ _ c.ev.size⟩
      · refine op_value fun a w c => ⟨(wanted_plain rfl), _, run_assign _ rfl w, (c.new 6 100 (by kernel_rfl) (by kernel_rfl))⟩
    · refine ⟨rfl, fun a wq c => ?_⟩
      obtain ⟨g_, d0_, d1_, d2_, eg_, hB_, hb_⟩ := (c.got 7 23 (by kernel_rfl) (by kernel_rfl) rfl : NewV _ _ _)
      have ev_0 : a.eval (.tmp 99) = .agg #[.int .i64 vk, .int .i64 vn, .string vs_] := (c.new 5 99 (by kernel_rfl) (by kernel_rfl))
      obtain ⟨⟨z0_, z1_, z2_⟩, y0_, y1_, y2_⟩ := hB_.three
      refine ⟨wanted_plain rfl, set3 g_ (.int .i64 vk) (.int .i64 vn) (.string vs_) wq, ?_, ⟨g_, _, _, _, hb_, ⟨_, _, _, hB_⟩, rfl⟩, c.ev.box (set3_but _ _ _ _ _) hb_, ⟨g_, eg_, hB_.set3 _ _ _, hb_⟩⟩
      generalize a.eval = ρ at eg_ ev_0 ⊢
      simp [execOp, eg_, ev_0, go_sem, z0_, z1_, z2_, y0_, y1_, y2_, set3]
    intro sl v15 hEr hold hnew hps
    obtain ⟨g1, f23, B1, hb_g1⟩ := hps
    have f15 : sl 15 = .pointer (some ⟨gx, 0, none⟩) := hold 15 (by kernel_rfl)
    have f18 : sl 18 = .slice (some ⟨gr, 0, none⟩) 3 3 := hold 18 (by kernel_rfl)
    have f19 : sl 19 = .int .i64 tk := hold 19 (by kernel_rfl)
    have f20 : sl 20 = .int .i64 ty := hold 20 (by kernel_rfl)
    have f21 : sl 21 = .int .i64 tk := hold 21 (by kernel_rfl)
    have f22 : sl 22 = .int .i64 ty := hold 22 (by kernel_rfl)
    have f24 : sl 24 = .int .i64 vy := hnew 9 24 (by kernel_rfl)
    have f94 : sl 94 = .tuple #[.agg #[.int .i64 vk, .int .i64 vn, .string vs_], .int .i64 vy] := hnew 4 94 (by kernel_rfl)
    have f95 : sl 95 = .agg #[.int .i64 x.kind, .string ⟨x.s.toArray⟩, .int .i64 x.n, .slice x.A x.kids.length x.cap] := hnew 0 95 (by kernel_rfl)
    have f97 : sl 97 = .slice (some ⟨gr, 0, none⟩) 3 3 := hnew 2 97 (by kernel_rfl)
    have f98 : sl 98 = .tuple #[.agg #[.int .i64 vk, .int .i64 vn, .string vs_], .int .i64 vy] := hnew 3 98 (by kernel_rfl)
    have f99 : sl 99 = .agg #[.int .i64 vk, .int .i64 vn, .string vs_] := hnew 5 99 (by kernel_rfl)
    have f100 : sl 100 = .int .i64 vy := hnew 6 100 (by kernel_rfl)
    change Exit.then _ _ .normal ⟨#[sl 0, sl 1, sl 2, sl 3, sl 4, sl 5, sl 6, sl 7, sl 8, sl 9, sl 10, sl 11, sl 12, sl 13, sl 14, sl 15, sl 16, sl 17, sl 18, sl 19, sl 20, sl 21, sl 22, sl 23, sl 24, sl 25, sl 26, sl 27, sl 28, sl 29, sl 30, sl 31, sl 32, sl 33, sl 34, sl 35, sl 36, sl 37, sl 38, sl 39, sl 40, sl 41, sl 42, sl 43, sl 44, sl 45, sl 46, sl 47, sl 48, sl 49, sl 50, sl 51, sl 52, sl 53, sl 54, sl 55, sl 56, sl 57, sl 58, sl 59, sl 60, sl 61, sl 62, sl 63, sl 64, sl 65, sl 66, sl 67, sl 68, sl 69, sl 70, sl 71, sl 72, sl 73, sl 74, sl 75, sl 76, sl 77, sl 78, sl 79, sl 80, sl 81, sl 82, sl 83, sl 84, sl 85, sl 86, sl 87, sl 88, sl 89, sl 90, sl 91, sl 92, sl 93, sl 94, sl 95, sl 96, sl 97, sl 98, sl 99, sl 100, sl 101, sl 102, sl 103, sl 104, sl 105, sl 106, sl 107, sl 108, sl 109, sl 110, sl 111, sl 112, sl 113, sl 114, sl 115, sl 116, sl 117, sl 118, sl 119, sl 120, sl 121, sl 122, sl 123, sl 124, sl 125, sl 126, sl 127, sl 128], _⟩ _
    simp only [f23, f15, f18, f19, f20, f21, f22, f24, f94, f95, f97, f98, f99, f100]
    clear hold hnew
    have E15 := E14.trans hEr
    replace S := S.ev hEr
    have HE2 := Lib.hid (fun w1 (hE : Ev v15 w1) => HE2a.out w1 (E15.trans hE))
    clear hEr
    go_upto_region 16 with fail
    refine wp_region_slotsN hmix (JV (v15.heap.size)) 8 25 7 (BxV (v15.heap.size) vk vn vs_) [fun v _ => v = .agg #[.int .i64 x.kind, .string ⟨x.s.toArray⟩, .int .i64 x.n, .slice x.A x.kids.length x.cap], ColsF, fun v _ => v = .slice (some ⟨gr, 0, none⟩) 3 3, fun v _ => v = .tuple #[.agg #[.int .i64 vk, .int .i64 vn, .string vs_], .int .i64 vy], fun v _ => v = .tuple #[.agg #[.int .i64 vk, .int .i64 vn, .string vs_], .int .i64 vy], fun v _ => v = .agg #[.int .i64 vk, .int .i64 vn, .string vs_], fun v _ => v = .int .i64 vy, NewV (v15.heap.size), fun _ _ => True, fun v _ => v = .int .i64 vy]
      129 rfl (by kernel_rfl) ⟨mono_eq _, ColsF.mono, mono_eq _, mono_eq _, mono_eq _, mono_eq _, mono_eq _, NewV.mono _, mono_true, mono_eq _, trivial⟩ ⟨.inr (.inr fun _ _ _ _ h => h), .inr (.inr (ColsF.jump _)), .inr (.inr fun _ _ _ _ h => h), .inr (.inr fun _ _ _ _ h => h), .inr (.inr fun _ _ _ _ h => h), .inr (.inr fun _ _ _ _ h => h), .inr (.inr fun _ _ _ _ h => h), .inr (.inr (NewV.jump _ _)), .inl rfl, .inr (.inr fun _ _ _ _ h => h), trivial⟩ (BxV.mono _ _ _ _) _ rfl (by kernel_rfl) (by kernel_rfl) ?_ ?_ ?_
    · refine opn_cons 0 ?_ (opn_cons 1 ?_ (opn_cons 2 ?_ (opn_cons 3 ?_ (opn_cons 4 ?_ (opn_cons 5 ?_ (opn_cons 6 ?_ (opn_cons 7 ?_ (opn_store 8 (opn_cons 9 ?_ (opn_nil 10))))))))))
      · refine op_value fun a wq c => ⟨(wanted_plain rfl), _, run_load_box2 rfl ((c.was 15 (by kernel_rfl) rfl) : a.eval (.tmp 15) = .pointer (some ⟨gx, 0, none⟩)) (S.bx.ev c.ev) Try.underlying39 rfl Try.sizeExpr, rfl⟩
      · refine op_call fun a wq c => ⟨(wanted_plain rfl), 6, #[], ?_, ?_⟩
        · rw [run_call 6 _ _ rfl (by kernel_rfl)]
          simp
        · exact HTC.out wq
      · refine op_value fun a w c => ⟨(wanted_plain rfl), _, run_move _ rfl w, (c.was 18 (by kernel_rfl) rfl)⟩
      · refine op_call fun a wq c => ?_
        obtain ⟨g_, cs_, eg_, _, hC_⟩ := (c.got 1 103 (by kernel_rfl) (by kernel_rfl) rfl : ColsF _ _)
        refine ⟨(wanted_plain rfl), 17, #[.agg #[.int .i64 x.kind, .string ⟨x.s.toArray⟩, .int .i64 x.n, .slice x.A x.kids.length x.cap], .slice (some ⟨g_, 0, none⟩) 3 3, .slice (some ⟨gr, 0, none⟩) 3 3], ?_, ?_⟩
        · rw [run_call 17 _ _ rfl (by kernel_rfl)]
          have e_0 : a.eval (.tmp 102) = .agg #[.int .i64 x.kind, .string ⟨x.s.toArray⟩, .int .i64 x.n, .slice x.A x.kids.length x.cap] := (c.new 0 102 (by kernel_rfl) (by kernel_rfl))
          have e_1 : a.eval (.tmp 104) = .slice (some ⟨gr, 0, none⟩) 3 3 := (c.new 2 104 (by kernel_rfl) (by kernel_rfl))
          simp [e_0, e_1, eg_]
        · refine (HE2.out wq c.ev _ hC_).mono ?_
          rintro e wp ⟨rfl, hE⟩
          exact ⟨_, rfl, hE, rfl⟩
      · refine op_value fun a w c => ⟨(wanted_plain rfl), _, run_move _ rfl w, (c.new 3 105 (by kernel_rfl) (by kernel_rfl))⟩
      · refine op_value fun a w c => ⟨(wanted_plain rfl), .agg #[.int .i64 vk, .int .i64 vn, .string vs_], ?_, rfl⟩
        have e101 : a.eval (.tmp 101) = .tuple #[.agg #[.int .i64 vk, .int .i64 vn, .string vs_], .int .i64 vy] := (c.new 4 101 (by kernel_rfl) (by kernel_rfl))
        generalize a.eval = ρ at e101 ⊢
        simp [execOp, e101, go_sem]
      · refine op_value fun a w c => ⟨(wanted_plain rfl), .int .i64 vy, ?_, rfl⟩
        have e101 : a.eval (.tmp 101) = .tuple #[.agg #[.int .i64 vk, .int .i64 vn, .string vs_], .int .i64 vy] := (c.new 4 101 (by kernel_rfl) (by kernel_rfl))
        generalize a.eval = ρ at e101 ⊢
        simp [execOp, e101, go_sem]
      · refine op_makes fun a wq c => ⟨(wanted_plain rfl), _, _, run_alloc_val rfl, Ev.alloc _ _, NewV.new _ _ c.ev.size⟩
      · refine op_value fun a w c => ⟨(wanted_plain rfl), _, run_assign _ rfl w, (c.new 6 107 (by kernel_rfl) (by kernel_rfl))⟩
    · refine ⟨rfl, fun a wq c => ?_⟩
      obtain ⟨g_, d0_, d1_, d2_, eg_, hB_, hb_⟩ := (c.got 7 25 (by kernel_rfl) (by kernel_rfl) rfl : NewV _ _ _)
      have ev_0 : a.eval (.tmp 106) = .agg #[.int .i64 vk, .int .i64 vn, .string vs_] := (c.new 5 106 (by kernel_rfl) (by kernel_rfl))
      obtain ⟨⟨z0_, z1_, z2_⟩, y0_, y1_, y2_⟩ := hB_.three
      refine ⟨wanted_plain rfl, set3 g_ (.int .i64 vk) (.int .i64 vn) (.string vs_) wq, ?_, ⟨g_, _, _, _, hb_, ⟨_, _, _, hB_⟩, rfl⟩, c.ev.box (set3_but _ _ _ _ _) hb_, ⟨g_, eg_, hB_.set3 _ _ _, hb_⟩⟩
      generalize a.eval = ρ at eg_ ev_0 ⊢
      simp [execOp, eg_, ev_0, go_sem, z0_, z1_, z2_, y0_, y1_, y2_, set3]
    intro sl v16 hEr hold hnew hps
    obtain ⟨g2, f25, B2, hb_g2⟩ := hps
    have f15 : sl 15 = .pointer (some ⟨gx, 0, none⟩) := hold 15 (by kernel_rfl)
    have f18 : sl 18 = .slice (some ⟨gr, 0, none⟩) 3 3 := hold 18 (by kernel_rfl)
    have f19 : sl 19 = .int .i64 tk := hold 19 (by kernel_rfl)
    have f20 : sl 20 = .int .i64 ty := hold 20 (by kernel_rfl)
    have f21 : sl 21 = .int .i64 tk := hold 21 (by kernel_rfl)
    have f22 : sl 22 = .int .i64 ty := hold 22 (by kernel_rfl)
    have f23 : sl 23 = .pointer (some ⟨g1, 0, none⟩) := hold 23 (by kernel_rfl)
    have f24 : sl 24 = .int .i64 vy := hold 24 (by kernel_rfl)
    have f26 : sl 26 = .int .i64 vy := hnew 9 26 (by kernel_rfl)
    have f101 : sl 101 = .tuple #[.agg #[.int .i64 vk, .int .i64 vn, .string vs_], .int .i64 vy] := hnew 4 101 (by kernel_rfl)
    have f102 : sl 102 = .agg #[.int .i64 x.kind, .string ⟨x.s.toArray⟩, .int .i64 x.n, .slice x.A x.kids.length x.cap] := hnew 0 102 (by kernel_rfl)
    have f104 : sl 104 = .slice (some ⟨gr, 0, none⟩) 3 3 := hnew 2 104 (by kernel_rfl)
    have f105 : sl 105 = .tuple #[.agg #[.int .i64 vk, .int .i64 vn, .string vs_], .int .i64 vy] := hnew 3 105 (by kernel_rfl)
    have f106 : sl 106 = .agg #[.int .i64 vk, .int .i64 vn, .string vs_] := hnew 5 106 (by kernel_rfl)
    have f107 : sl 107 = .int .i64 vy := hnew 6 107 (by kernel_rfl)
    change Exit.then _ _ .normal ⟨#[sl 0, sl 1, sl 2, sl 3, sl 4, sl 5, sl 6, sl 7, sl 8, sl 9, sl 10, sl 11, sl 12, sl 13, sl 14, sl 15, sl 16, sl 17, sl 18, sl 19, sl 20, sl 21, sl 22, sl 23, sl 24, sl 25, sl 26, sl 27, sl 28, sl 29, sl 30, sl 31, sl 32, sl 33, sl 34, sl 35, sl 36, sl 37, sl 38, sl 39, sl 40, sl 41, sl 42, sl 43, sl 44, sl 45, sl 46, sl 47, sl 48, sl 49, sl 50, sl 51, sl 52, sl 53, sl 54, sl 55, sl 56, sl 57, sl 58, sl 59, sl 60, sl 61, sl 62, sl 63, sl 64, sl 65, sl 66, sl 67, sl 68, sl 69, sl 70, sl 71, sl 72, sl 73, sl 74, sl 75, sl 76, sl 77, sl 78, sl 79, sl 80, sl 81, sl 82, sl 83, sl 84, sl 85, sl 86, sl 87, sl 88, sl 89, sl 90, sl 91, sl 92, sl 93, sl 94, sl 95, sl 96, sl 97, sl 98, sl 99, sl 100, sl 101, sl 102, sl 103, sl 104, sl 105, sl 106, sl 107, sl 108, sl 109, sl 110, sl 111, sl 112, sl 113, sl 114, sl 115, sl 116, sl 117, sl 118, sl 119, sl 120, sl 121, sl 122, sl 123, sl 124, sl 125, sl 126, sl 127, sl 128], _⟩ _
    simp only [f25, f15, f18, f19, f20, f21, f22, f23, f24, f26, f101, f102, f104, f105, f106, f107]
    clear hold hnew
    have B1' := B1.ev hEr
    have E16 := S0.all.trans (E15.trans hEr)
    clear hEr
    obtain ⟨⟨p0, p1, p2⟩, _⟩ := B1'.three
    obtain ⟨⟨q0, q1, q2⟩, _⟩ := B2.three
    have e1 := fun w1 => run_eq_val vk vn vs_ vk vn vs_ w1
    have e2 := fun x y w1 => eqGuard_val .eql x y #[.int .i64 vk, .int .i64 vn, .string vs_] #[.int .i64 vk, .int .i64 vn, .string vs_] w1
    have e3 : sameV vk vn vs_ vk vn vs_ = true := sameV_self _ _ _
    simp only [e3] at e1
    unfold vv at e1
    clear HT1 HT2 HE1 HE2 HE1a HE2a S S0 B1 B2 B1' E13 E14 E15 hb_g1 hb_g2
    go_wp2_with (first
      | ((with_reducible refine (HKn.out _).mono ?_); rintro r w9 ⟨rfl, hE9⟩))
    go_ret
    exact ⟨rfl, E16.trans hE9⟩
  · have hw' : (Rw != 0) = true := bne_iff_ne.2 hw
    have HR := Lib.hid HR
    clear hsm
    go_wp2_with (first
      | ((with_reducible refine (HR.out _).mono ?_); rintro r w1 ⟨m, rfl, hmt, hml, hE1⟩; simp only []; clear hmt hml)
      | ((with_reducible refine (HKn.out _).mono ?_); rintro r w9 ⟨rfl, hE9⟩))
    go_ret
    exact ⟨rfl, (hE1.trans (Ev.alloc _ _)).trans hE9⟩
end Go.Proofs.Ytnljagmpeifikaa
