/-
  TallyRules: whatever the input, the law gives true and leaves its arguments as they were. No condition.
-/
import Derived.Test.YtjlibmlcphbkoaaRows
import Derived.Test.YtjlibmlcphbkoaaTallyInt
import Derived.Test.YtjlibmlcphbkoaaRegion
import Derived.ProofKit
import Derived.OpenShut
import Derived.ShutString
import Derived.ChangeOld
namespace Go.Proofs.Ytjlibmlcphbkoaa.tallyRules
open Go.ChangeShapes Go.WideShapes Go.ChangeAt Go.RowKit
set_option linter.unusedVariables false
theorem prod_small {x y : Int} (h1 : -2000 ≤ x) (h2 : x ≤ 2000) (h3 : -2000 ≤ y) (h4 : y ≤ 2000) : -4000000 ≤ x * y ∧ x * y ≤ 4000000 := by
  refine prod_le (k := x.natAbs) (l := y.natAbs) rfl rfl (M := 4000000) ?_
  have : x.natAbs * y.natAbs ≤ 2000 * 2000 := Nat.mul_le_mul (by omega) (by omega)
  omega

theorem own : ownKnob Try.prog.godebug = none := by kernel_rfl
theorem laidOut : laidOutB Try.prog = true := by kernel_rfl

set_option maxRecDepth 100000 in
set_option maxHeartbeats 2000000 in
theorem walk (x0 : Int) (x1 : Int) (x2 : Int) (x3 : Int) (x4 : Int) (x5 : Int) (w : World) (w0_ : (Lit.int .i64 x0).wf = true) (w1_ : (Lit.int .i64 x1).wf = true) (w2_ : (Lit.int .i64 x2).wf = true) (w3_ : (Lit.int .i64 x3).wf = true) (w4_ : (Lit.int .i64 x4).wf = true) (w5_ : (Lit.int .i64 x5).wf = true) :
    Calls Try.prog 4 #[.int .i64 x0, .int .i64 x1, .int .i64 x2, .int .i64 x3, .int .i64 x4, .int .i64 x5] w fun e w' => e = .returned (.bool true) ∧ Ev w w' := by
  obtain ⟨a1, a2⟩ := within_range (n := x0) (lo := 0) (hi := 1000) (by omega)
  obtain ⟨b1, b2⟩ := within_range (n := x1) (lo := 0) (hi := 1000) (by omega)
  obtain ⟨c1, c2⟩ := within_range (n := x2) (lo := 0) (hi := 1000) (by omega)
  obtain ⟨d1, d2⟩ := within_range (n := x3) (lo := 0) (hi := 1000) (by omega)
  obtain ⟨e1, e2⟩ := within_range (n := x4) (lo := 0) (hi := 1000) (by omega)
  obtain ⟨f1, f2⟩ := within_range (n := x5) (lo := 0) (hi := 1000) (by omega)
  have S0 := Lib.hid (fun w => small_any x0 x1 w w0_ w1_)
  have S1 := Lib.hid (fun w => small_any x2 x3 w w2_ w3_)
  have S2 := Lib.hid (fun w => small_any x4 x5 w w4_ w5_)
  generalize within x0 0 1000 = a at *
  generalize within x1 0 1000 = b at *
  generalize within x2 0 1000 = c at *
  generalize within x3 0 1000 = d at *
  generalize within x4 0 1000 = e at *
  generalize within x5 0 1000 = f at *
  clear w0_ w1_ w2_ w3_ w4_ w5_
  have Pa : Part a := by unfold Part; omega
  have Pb : Part b := by unfold Part; omega
  have Pc : Part c := by unfold Part; omega
  have Pd : Part d := by unfold Part; omega
  have Pe : Part e := by unfold Part; omega
  have Pf : Part f := by unfold Part; omega
  obtain ⟨X, hX⟩ : ∃ X, a - b = X := ⟨_, rfl⟩
  obtain ⟨Y, hY⟩ : ∃ Y, c - d = Y := ⟨_, rfl⟩
  obtain ⟨Z, hZ⟩ : ∃ Z, e - f = Z := ⟨_, rfl⟩
  obtain ⟨lx1, lx2, ly1, ly2, lz1, lz2⟩ : -1000 ≤ X ∧ X ≤ 1000 ∧ -1000 ≤ Y ∧ Y ≤ 1000 ∧ -1000 ≤ Z ∧ Z ≤ 1000 := by omega
  obtain ⟨m1, m2⟩ := prod_small (x := X) (y := Y) (by omega) (by omega) (by omega) (by omega)
  obtain ⟨m3, m4⟩ := prod_small (x := X) (y := Y + Z) (by omega) (by omega) (by omega) (by omega)
  obtain ⟨m5, m6⟩ := prod_small (x := X) (y := Z) (by omega) (by omega) (by omega) (by omega)
  have hdist : X * (Y + Z) = X * Y + X * Z := Int.mul_add _ _ _
  have hcomm : Y * X = X * Y := Int.mul_comm _ _
  obtain ⟨p1_, p2_, Rp⟩ := Redi.ex (X + Y)
  obtain ⟨Pp1, Pp2⟩ := Rp.part (by omega) (by omega)
  have Ep := Rp.2.2.1
  obtain ⟨r1_, r2_, Rr⟩ := Redi.ex (X + Y + Z)
  obtain ⟨Pr1, Pr2⟩ := Rr.part (by omega) (by omega)
  have Er := Rr.2.2.1
  obtain ⟨s1_, s2_, Rs⟩ := Redi.ex (Y + Z)
  obtain ⟨Ps1, Ps2⟩ := Rs.part (by omega) (by omega)
  have Es := Rs.2.2.1
  obtain ⟨u1_, u2_, Ru⟩ := Redi.ex (X * Y)
  obtain ⟨Pu1, Pu2⟩ := Ru.part (by omega) (by omega)
  have Eu := Ru.2.2.1
  obtain ⟨w1_, w2_, Rw⟩ := Redi.ex (X * (Y + Z))
  obtain ⟨Pw1, Pw2⟩ := Rw.part (by omega) (by omega)
  have Ew := Rw.2.2.1
  obtain ⟨g1_, g2_, Rg⟩ := Redi.ex (X * Z)
  obtain ⟨Pg1, Pg2⟩ := Rg.part (by omega) (by omega)
  have Eg := Rg.2.2.1
  obtain ⟨m1_, m2_, Rm⟩ := Redi.ex (X)
  obtain ⟨Pm1, Pm2⟩ := Rm.part (by omega) (by omega)
  have Em := Rm.2.2.1
  have qp1 := same_fl Pp1
  have qp2 := same_fl Pp2
  have qr1 := same_fl Pr1
  have qr2 := same_fl Pr2
  have qu1 := same_fl Pu1
  have qu2 := same_fl Pu2
  have qw1 := same_fl Pw1
  have qw2 := same_fl Pw2
  have qm1 := same_fl Pm1
  have qm2 := same_fl Pm2
  have C1 := Lib.hid (fun w => add_i a b c d p1_ p2_ (X + Y) Pa Pb Pc Pd (Lib.hid (by omega)) Rp Pp1 Pp2 w)
  have C2 := Lib.hid (fun w => add_i c d a b p1_ p2_ (X + Y) Pc Pd Pa Pb (Lib.hid (by omega)) Rp Pp1 Pp2 w)
  have C3 := Lib.hid (fun w => add_i p1_ p2_ e f r1_ r2_ (X + Y + Z) Pp1 Pp2 Pe Pf (Lib.hid (by omega)) Rr Pr1 Pr2 w)
  have C4 := Lib.hid (fun w => add_i c d e f s1_ s2_ (Y + Z) Pc Pd Pe Pf (Lib.hid (by omega)) Rs Ps1 Ps2 w)
  have C5 := Lib.hid (fun w => add_i a b s1_ s2_ r1_ r2_ (X + Y + Z) Pa Pb Ps1 Ps2 (Lib.hid (by omega)) Rr Pr1 Pr2 w)
  have C6 := Lib.hid (fun w => times_i a b c d u1_ u2_ (X) (Y) (X * Y) (Lib.hid (by omega)) (Lib.hid (by omega)) Pa Pb Pc Pd (Lib.hid rfl) Ru Pu1 Pu2 w)
  have C7 := Lib.hid (fun w => times_i c d a b u1_ u2_ (Y) (X) (X * Y) (Lib.hid (by omega)) (Lib.hid (by omega)) Pc Pd Pa Pb (Lib.hid hcomm) Ru Pu1 Pu2 w)
  have C8 := Lib.hid (fun w => times_i a b s1_ s2_ w1_ w2_ (X) (Y + Z) (X * (Y + Z)) (Lib.hid (by omega)) (Lib.hid (by omega)) Pa Pb Ps1 Ps2 (Lib.hid rfl) Rw Pw1 Pw2 w)
  have C9 := Lib.hid (fun w => times_i a b e f g1_ g2_ (X) (Z) (X * Z) (Lib.hid (by omega)) (Lib.hid (by omega)) Pa Pb Pe Pf (Lib.hid rfl) Rg Pg1 Pg2 w)
  have C10 := Lib.hid (fun w => add_i u1_ u2_ g1_ g2_ w1_ w2_ (X * (Y + Z)) Pu1 Pu2 Pg1 Pg2 (Lib.hid (by omega)) Rw Pw1 Pw2 w)
  have C11 := Lib.hid (fun w => net_i p1_ p2_ (X + Y) (Lib.hid (by omega)) Pp1 Pp2 w)
  have C12 := Lib.hid (fun w => net_i a b (X) (Lib.hid (by omega)) Pa Pb w)
  have C13 := Lib.hid (fun w => net_i c d (Y) (Lib.hid (by omega)) Pc Pd w)
  have C14 := Lib.hid (fun w => net_i u1_ u2_ (X * Y) (Lib.hid (by omega)) Pu1 Pu2 w)
  have C15 := Lib.hid (fun w => net_i b a (-X) (Lib.hid (by omega)) Pb Pa w)
  have C16 := Lib.hid (fun w => flip_i a b Pa Pb w)
  have Rm_ : Redi (m1_ - m2_) m1_ m2_ := by have := Rm; unfold Redi at this ⊢; omega
  have Rx_ : Redi (a - b) m1_ m2_ := by have := Rm; unfold Redi at this ⊢; omega
  have C17 := Lib.hid (fun w => reduce_i a b m1_ m2_ Pa Pb Rx_ w)
  have C18 := Lib.hid (fun w => reduce_i m1_ m2_ m1_ m2_ Pm1 Pm2 Rm_ w)
  clear Rm_ Rx_ hdist hcomm hX hY hZ Rp Ep Pp1 Pp2 Rr Er Pr1 Pr2 Rs Es Ps1 Ps2 Ru Eu Pu1 Pu2 Rw Ew Pw1 Pw2 Rg Eg Pg1 Pg2 Rm Em Pm1 Pm2 Pa Pb Pc Pd Pe Pf
  go_enter Try.func4, Try.ntmps4
  go_wp2_with (first | ((with_reducible refine (S0.out w).mono ?_); rintro e w' ⟨rfl, rfl⟩) | ((with_reducible refine (S1.out w).mono ?_); rintro e w' ⟨rfl, rfl⟩) | ((with_reducible refine (S2.out w).mono ?_); rintro e w' ⟨rfl, rfl⟩) | ((with_reducible refine (C1.out w).mono ?_); rintro e w' ⟨rfl, rfl⟩) | ((with_reducible refine (C2.out w).mono ?_); rintro e w' ⟨rfl, rfl⟩) | ((with_reducible refine (C3.out w).mono ?_); rintro e w' ⟨rfl, rfl⟩) | ((with_reducible refine (C4.out w).mono ?_); rintro e w' ⟨rfl, rfl⟩) | ((with_reducible refine (C5.out w).mono ?_); rintro e w' ⟨rfl, rfl⟩) | ((with_reducible refine (C6.out w).mono ?_); rintro e w' ⟨rfl, rfl⟩) | ((with_reducible refine (C7.out w).mono ?_); rintro e w' ⟨rfl, rfl⟩) | ((with_reducible refine (C8.out w).mono ?_); rintro e w' ⟨rfl, rfl⟩) | ((with_reducible refine (C9.out w).mono ?_); rintro e w' ⟨rfl, rfl⟩) | ((with_reducible refine (C10.out w).mono ?_); rintro e w' ⟨rfl, rfl⟩) | ((with_reducible refine (C11.out w).mono ?_); rintro e w' ⟨rfl, rfl⟩) | ((with_reducible refine (C12.out w).mono ?_); rintro e w' ⟨rfl, rfl⟩) | ((with_reducible refine (C13.out w).mono ?_); rintro e w' ⟨rfl, rfl⟩) | ((with_reducible refine (C14.out w).mono ?_); rintro e w' ⟨rfl, rfl⟩) | ((with_reducible refine (C15.out w).mono ?_); rintro e w' ⟨rfl, rfl⟩) | ((with_reducible refine (C16.out w).mono ?_); rintro e w' ⟨rfl, rfl⟩) | ((with_reducible refine (C17.out w).mono ?_); rintro e w' ⟨rfl, rfl⟩) | ((with_reducible refine (C18.out w).mono ?_); rintro e w' ⟨rfl, rfl⟩) | ((with_reducible refine (known_any w).mono ?_); rintro e w' ⟨rfl, rfl⟩))
  all_goals
    go_ret
    exact ⟨rfl, Ev.refl _⟩

set_option maxRecDepth 100000 in
theorem lifted (os : Os) (started : os.Started) (H : Type) (enc : TypeId × Value → H) :
    ReturnsInHanded {} Try.checked os 4 .any (Rows.tallyRulesSpec.pre6 enc Try.prog Try.f4 Rows.tallyRulesRow.domain false) (Rows.tallyRulesSpec.post enc Try.prog Try.f4 false true false false) := by
  refine returnsInHanded_of_change (C := Try.checked) own started (by kernel_rfl) Try.func4
    (ChangeSpec.witness6 (enc := enc) (C := Try.checked) false ⟨#[], #[.int .i64 0, .int .i64 0, .int .i64 0, .int .i64 0, .int .i64 0, .int .i64 0], []⟩ 8 (by kernel_rfl) (by kernel_rfl) (by kernel_rfl) (by kernel_rfl)) ?_
  intro W base args ds gs before hval0 hW hcnd _
  have hval : ∀ (j : Nat) t v, Try.f4.params[j]? = some t → args[j]? = some v → Value.okWide Try.prog W .any base t v := hval0
  have hW' := hW
  obtain ⟨p, q, hA0, hV, rfl, hfz, hnd⟩ := hW
  have hA : DataW.TrodAll enc Try.prog W 0 (fun _ => true) true Try.f4.params.toList args.toList ds p := hA0
  rw [Try.params4] at hA hval
  obtain ⟨v0, vs0, d0, ds0, p0, q0, hargs, rfl, rfl, h0, r0⟩ := trodAll_cons hA
  obtain ⟨v1, vs1, d1, ds1, p1, q1, rfl, rfl, rfl, h1, r1⟩ := trodAll_cons r0
  obtain ⟨v2, vs2, d2, ds2, p2, q2, rfl, rfl, rfl, h2, r2⟩ := trodAll_cons r1
  obtain ⟨v3, vs3, d3, ds3, p3, q3, rfl, rfl, rfl, h3, r3⟩ := trodAll_cons r2
  obtain ⟨v4, vs4, d4, ds4, p4, q4, rfl, rfl, rfl, h4, r4⟩ := trodAll_cons r3
  obtain ⟨v5, vs5, d5, ds5, p5, q5, rfl, rfl, rfl, h5, r5⟩ := trodAll_cons r4
  obtain ⟨rfl, rfl, rfl⟩ := trodAll_nil r5
  obtain rfl : args = #[v0, v1, v2, v3, v4, v5] := by cases args; simp_all
  obtain ⟨rfl, rfl⟩ := trodVars_none hV
  obtain ⟨x0, rfl, rfl, rfl, w0⟩ := open_int Try.underlying3 (hval 0 3 v0 rfl rfl) h0
  obtain ⟨x1, rfl, rfl, rfl, w1⟩ := open_int Try.underlying3 (hval 1 3 v1 rfl rfl) h1
  obtain ⟨x2, rfl, rfl, rfl, w2⟩ := open_int Try.underlying3 (hval 2 3 v2 rfl rfl) h2
  obtain ⟨x3, rfl, rfl, rfl, w3⟩ := open_int Try.underlying3 (hval 3 3 v3 rfl rfl) h3
  obtain ⟨x4, rfl, rfl, rfl, w4⟩ := open_int Try.underlying3 (hval 4 3 v4 rfl rfl) h4
  obtain ⟨x5, rfl, rfl, rfl, w5⟩ := open_int Try.underlying3 (hval 5 3 v5 rfl rfl) h5
  clear hA0 hval0
  refine (walk x0 x1 x2 x3 x4 x5 W w0 w1 w2 w3 w4 w5).mono fun e W' ⟨he, bel⟩ => ?_
  subst he
  exact ⟨_, rfl, _, _, _, [], _, [], hW', trodAll_mk1 (shut_bool Try.underlying4 _), (trodAll_cons_mk (shut_int Try.underlying3 w0) (trodAll_cons_mk (shut_int Try.underlying3 w1) (trodAll_cons_mk (shut_int Try.underlying3 w2) (trodAll_cons_mk (shut_int Try.underlying3 w3) (trodAll_cons_mk (shut_int Try.underlying3 w4) (trodAll_cons_mk (shut_int Try.underlying3 w5) trodAll_mk0)))))), rfl, bel.frame _, fun h => by cases h⟩

theorem over : Rows.tallyRulesRow.holds Try.pinned (OpenSpec.ofChange Rows.tallyRulesSpec) :=
  OpenClaim.holds_of_wide 4 Try.f4 rfl rfl rfl rfl rfl rfl rfl ⟨rfl, rfl, rfl, rfl, rfl⟩ rfl rfl rfl rfl rfl (by kernel_rfl) Try.func4 (by kernel_rfl)
    (of_decide_eq_true (by kernel_rfl)) (by unfold Func.isWrapper; first | (rw [if_pos (by decide +kernel)]; kernel_rfl) | (rw [if_neg (by decide +kernel)]; exact ⟨rfl, rfl⟩))
    (fun os started H enc _ => lifted os started H enc)

/-- The statement. -/
theorem proved : Rows.TallyRulesSaid := over
#print axioms proved
end Go.Proofs.Ytjlibmlcphbkoaa.tallyRules
