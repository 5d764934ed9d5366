/-
  TallyParts: whatever the input, the law gives true and leaves its arguments as they were. No condition.
-/
import Derived.Test.YtjlibmlcphbkoaaRows
import Derived.Test.YtjlibmlcphbkoaaTallyInt
import Derived.Test.YtjlibmlcphbkoaaRegion
import Derived.ProofKit
import Derived.OpenShut
import Derived.ShutString
import Derived.ChangeOld
namespace Go.Proofs.Ytjlibmlcphbkoaa.tallyParts
open Go.ChangeShapes Go.WideShapes Go.ChangeAt Go.RowKit
set_option linter.unusedVariables false

theorem own : ownKnob Try.prog.godebug = none := by kernel_rfl
theorem laidOut : laidOutB Try.prog = true := by kernel_rfl

set_option maxRecDepth 100000 in
set_option maxHeartbeats 400000 in
theorem walk (x0 : Int) (x1 : Int) (w : World) (w0_ : (Lit.int .i64 x0).wf = true) (w1_ : (Lit.int .i64 x1).wf = true) :
    Calls Try.prog 5 #[.int .i64 x0, .int .i64 x1] w fun e w' => e = .returned (.bool true) ∧ Ev w w' := by
  have W0 := Lib.hid (fun w => within_any x0 0 1099511627776 w w0_ (by omega) (by omega) (by omega))
  have W1 := Lib.hid (fun w => within_any x1 0 1099511627776 w w1_ (by omega) (by omega) (by omega))
  obtain ⟨r1, r2⟩ := within_range (n := x0) (lo := 0) (hi := 1099511627776) (by omega)
  obtain ⟨s1, s2⟩ := within_range (n := x1) (lo := 0) (hi := 1099511627776) (by omega)
  generalize within x0 0 1099511627776 = a at *
  generalize within x1 0 1099511627776 = b at *
  clear w0_ w1_
  have A1 : Part a := by unfold Part; omega
  have B1 : Part b := by unfold Part; omega
  obtain ⟨p, q, hr⟩ := Redi.ex (a - b)
  obtain ⟨P1, Q1⟩ := hr.part (by omega) (by omega)
  have ea := same_fl A1
  have eb := same_fl B1
  obtain ⟨n, hn⟩ : ∃ n, a - b = n := ⟨_, rfl⟩
  have hpn : p - q = n := hn ▸ hr.2.2.1
  have h0 : p = 0 ∨ q = 0 := hr.2.2.2
  have C1 := Lib.hid (fun w => reduce_i a b p q A1 B1 hr w)
  have C2 := Lib.hid (fun w => parts_i a b A1 B1 w)
  have C3 := Lib.hid (fun w => parts_i p q P1 Q1 w)
  have C4 := Lib.hid (fun w => right_i a b A1 B1 w)
  have C5 := Lib.hid (fun w => flip_i a b A1 B1 w)
  have C6 := Lib.hid (fun w => flip_i b a B1 A1 w)
  have C7 := Lib.hid (fun w => net_i a b n (Lib.hid hn) A1 B1 w)
  clear A1 B1 P1 Q1 hr
  have b1 : -1125899906842624 ≤ n := by omega
  have b2 : n ≤ 1125899906842624 := by omega
  rcases h0 with rfl | rfl
  all_goals
    go_enter Try.func5, Try.ntmps5
    go_wp2_with (first | ((with_reducible refine (W0.out w).mono ?_); rintro e w' ⟨rfl, rfl⟩) | ((with_reducible refine (W1.out w).mono ?_); rintro e w' ⟨rfl, rfl⟩) | ((with_reducible refine (of_any _ _ w).mono ?_); rintro e w' ⟨rfl, rfl⟩) | ((with_reducible refine (C1.out w).mono ?_); rintro e w' ⟨rfl, rfl⟩) | ((with_reducible refine (C2.out w).mono ?_); rintro e w' ⟨rfl, rfl⟩) | ((with_reducible refine (C3.out w).mono ?_); rintro e w' ⟨rfl, rfl⟩) | ((with_reducible refine (C4.out w).mono ?_); rintro e w' ⟨rfl, rfl⟩) | ((with_reducible refine (C5.out w).mono ?_); rintro e w' ⟨rfl, rfl⟩) | ((with_reducible refine (C6.out w).mono ?_); rintro e w' ⟨rfl, rfl⟩) | ((with_reducible refine (C7.out w).mono ?_); rintro e w' ⟨rfl, rfl⟩) | ((with_reducible refine (known_any w).mono ?_); rintro e w' ⟨rfl, rfl⟩))
    all_goals
      go_ret
      exact ⟨rfl, Ev.refl _⟩

set_option maxRecDepth 100000 in
theorem lifted (os : Os) (started : os.Started) (H : Type) (enc : TypeId × Value → H) :
    ReturnsInHanded {} Try.checked os 5 .any (Rows.tallyPartsSpec.pre6 enc Try.prog Try.f5 Rows.tallyPartsRow.domain false) (Rows.tallyPartsSpec.post enc Try.prog Try.f5 false true false false) := by
  refine returnsInHanded_of_change (C := Try.checked) own started (by kernel_rfl) Try.func5
    (ChangeSpec.witness6 (enc := enc) (C := Try.checked) false ⟨#[], #[.int .i64 0, .int .i64 0], []⟩ 8 (by kernel_rfl) (by kernel_rfl) (by kernel_rfl) (by kernel_rfl)) ?_
  intro W base args ds gs before hval0 hW hcnd _
  have hval : ∀ (j : Nat) t v, Try.f5.params[j]? = some t → args[j]? = some v → Value.okWide Try.prog W .any base t v := hval0
  have hW' := hW
  obtain ⟨p, q, hA0, hV, rfl, hfz, hnd⟩ := hW
  have hA : DataW.TrodAll enc Try.prog W 0 (fun _ => true) true Try.f5.params.toList args.toList ds p := hA0
  rw [Try.params5] at hA hval
  obtain ⟨v0, vs0, d0, ds0, p0, q0, hargs, rfl, rfl, h0, r0⟩ := trodAll_cons hA
  obtain ⟨v1, vs1, d1, ds1, p1, q1, rfl, rfl, rfl, h1, r1⟩ := trodAll_cons r0
  obtain ⟨rfl, rfl, rfl⟩ := trodAll_nil r1
  obtain rfl : args = #[v0, v1] := by cases args; simp_all
  obtain ⟨rfl, rfl⟩ := trodVars_none hV
  obtain ⟨x0, rfl, rfl, rfl, w0⟩ := open_int Try.underlying3 (hval 0 3 v0 rfl rfl) h0
  obtain ⟨x1, rfl, rfl, rfl, w1⟩ := open_int Try.underlying3 (hval 1 3 v1 rfl rfl) h1
  clear hA0 hval0
  refine (walk x0 x1 W w0 w1).mono fun e W' ⟨he, bel⟩ => ?_
  subst he
  exact ⟨_, rfl, _, _, _, [], _, [], hW', trodAll_mk1 (shut_bool Try.underlying4 _), (trodAll_cons_mk (shut_int Try.underlying3 w0) (trodAll_cons_mk (shut_int Try.underlying3 w1) trodAll_mk0)), rfl, bel.frame _, fun h => by cases h⟩

theorem over : Rows.tallyPartsRow.holds Try.pinned (OpenSpec.ofChange Rows.tallyPartsSpec) :=
  OpenClaim.holds_of_wide 5 Try.f5 rfl rfl rfl rfl rfl rfl rfl ⟨rfl, rfl, rfl, rfl, rfl⟩ rfl rfl rfl rfl rfl (by kernel_rfl) Try.func5 (by kernel_rfl)
    (of_decide_eq_true (by kernel_rfl)) (by unfold Func.isWrapper; first | (rw [if_pos (by decide +kernel)]; kernel_rfl) | (rw [if_neg (by decide +kernel)]; exact ⟨rfl, rfl⟩))
    (fun os started H enc _ => lifted os started H enc)

/-- The statement. -/
theorem proved : Rows.TallyPartsSaid := over
#print axioms proved
end Go.Proofs.Ytjlibmlcphbkoaa.tallyParts
