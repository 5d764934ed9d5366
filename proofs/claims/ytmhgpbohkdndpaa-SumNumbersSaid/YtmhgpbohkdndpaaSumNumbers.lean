/-
  SumNumbers: whatever the input, the law gives true and leaves its arguments as they were. No condition.
-/
import Derived.Test.YtmhgpbohkdndpaaKnown2
import Derived.ProofKit
import Derived.OpenShut
import Derived.ShutString
import Derived.ChangeOld
namespace Go.Proofs.Ytmhgpbohkdndpaa.sumNumbers
open Go.ChangeShapes Go.WideShapes Go.ChangeAt Go.RowKit
set_option linter.unusedVariables false

theorem own : ownKnob Try.prog.godebug = none := by kernel_rfl
theorem laidOut : laidOutB Try.prog = true := by kernel_rfl

set_option maxRecDepth 100000 in
set_option maxHeartbeats 400000 in
theorem walk  (w : World) :
    Calls Try.prog 3 #[] w fun e w' => e = .returned (.bool true) ∧ Ev w w' := by
  have hz1 : isSealed [1, 2, 3] = false := by decide +kernel
  have hz2 : isSealed [0, 0, 0, 1] = false := by decide +kernel
  have hz3 : isSealed [0, 0, 0, 0] = true := by decide +kernel
  have HO1 := Lib.hid (Bs.const w [1, 2, 3] 5 (0, 0) (by decide))
  have hmk : ∀ w : World, (Instr.makeSlice 22 (.int .i64 4) (.int .i64 4)).run Try.prog w = .ok (.slice (some ⟨w.heap.size, 0, none⟩) 4 4) (w.alloc (.cells (bvs [0, 0, 0, 0]).toArray 5 (0, 0))) := fun _ => by kernel_rfl
  go_enter Try.func3, Try.ntmps3
  go_wp2_with fail
  refine (open_any _ 3 3 [1, 2, 3] _ HO1.out (by omega)).mono ?_
  rintro e w1 ⟨v, rfl, hF1⟩
  have hE1 := hF1.ev
  obtain ⟨A1, cap1, rfl, _, _⟩ := hF1
  have HO2 := Lib.hid (Bs.const w1 [0, 0, 0, 1] 5 (0, 0) (by decide))
  go_wp2_with fail
  refine (open_any _ 4 4 [0, 0, 0, 1] _ HO2.out (by omega)).mono ?_
  rintro e w2 ⟨v, rfl, hF2⟩
  have hE2 := hF2.ev
  obtain ⟨A2, cap2, rfl, _, _⟩ := hF2
  have HO3 := Lib.hid (Bs.const w2 [0, 0, 0, 0] 5 (0, 0) (by decide))
  go_wp2_with fail
  refine (open_any _ 4 4 [0, 0, 0, 0] _ HO3.out (by omega)).mono ?_
  rintro e w3 ⟨v, rfl, hF3⟩
  have hE3 := hF3.ev
  obtain ⟨A3, cap3, rfl, _, _⟩ := hF3
  rw [show opened [0, 0, 0, 0] = [] from by decide +kernel, hz3]
  clear hmk HO1 HO2 HO3
  go_wp2_with fail
  refine (crc_any none 0 0 [] w3 (Bs.nil_ w3)).mono ?_
  rintro e w4 ⟨rfl, rfl⟩
  rw [show crc [] = 0 from by decide +kernel]
  go_wp2_with fail
  refine (seal_any none 0 0 [] w3 (Bs.nil_ w3) (by omega)).mono ?_
  rintro e w4 ⟨v, rfl, hF4⟩
  have hE4 := hF4.ev
  obtain ⟨A4, cap4, rfl, hown4, _⟩ := hF4
  rw [show seal_ [] = [0, 0, 0, 0] from by decide +kernel] at *
  have hB4 : Bs w4 A4 4 cap4 [0, 0, 0, 0] := Bs.own hown4
  have hs4 := hB4.str (P := Try.prog) 22 9 5 Try.underlying22 Try.underlying5 Try.underlying9
  clear hown4 hB4
  go_wp2_with fail
  refine (known_any w4).mono ?_
  rintro e w5 ⟨rfl, hE5⟩
  go_wp2
  go_ret
  exact ⟨rfl, ((((Ev.alloc w _).trans hE1).trans ((Ev.alloc w1 _).trans hE2)).trans ((Ev.alloc w2 _).trans hE3)).trans (hE4.trans hE5)⟩

set_option maxRecDepth 100000 in
theorem lifted (os : Os) (started : os.Started) (H : Type) (enc : TypeId × Value → H) :
    ReturnsInHanded {} Try.checked os 3 .any (Rows.sumNumbersSpec.pre6 enc Try.prog Try.f3 Rows.sumNumbersRow.domain false) (Rows.sumNumbersSpec.post enc Try.prog Try.f3 false true false false) := by
  refine returnsInHanded_of_change (C := Try.checked) own started (by kernel_rfl) Try.func3
    (ChangeSpec.witness6 (enc := enc) (C := Try.checked) false ⟨#[], #[], []⟩ 8 (by kernel_rfl) (by kernel_rfl) (by kernel_rfl) (by kernel_rfl)) ?_
  intro W base args ds gs before hval0 hW hcnd _
  have hval : ∀ (j : Nat) t v, Try.f3.params[j]? = some t → args[j]? = some v → Value.okWide Try.prog W .any base t v := hval0
  have hW' := hW
  obtain ⟨p, q, hA0, hV, rfl, hfz, hnd⟩ := hW
  have hA : DataW.TrodAll enc Try.prog W 0 (fun _ => true) true Try.f3.params.toList args.toList ds p := hA0
  rw [Try.params3] at hA hval
  obtain ⟨rfl, rfl, rfl⟩ := trodAll_none hA
  obtain ⟨rfl, rfl⟩ := trodVars_none hV

  clear hA0 hval0
  refine (walk W).mono fun e W' ⟨he, bel⟩ => ?_
  subst he
  exact ⟨_, rfl, _, _, _, [], _, [], hW', trodAll_mk1 (shut_bool Try.underlying4 _), trodAll_mk0, rfl, bel.frame _, fun h => by cases h⟩

theorem over : Rows.sumNumbersRow.holds Try.pinned (OpenSpec.ofChange Rows.sumNumbersSpec) :=
  OpenClaim.holds_of_wide 3 Try.f3 rfl rfl rfl rfl rfl rfl rfl ⟨rfl, rfl, rfl, rfl, rfl⟩ rfl rfl rfl rfl rfl (by kernel_rfl) Try.func3 (by kernel_rfl)
    (of_decide_eq_true (by kernel_rfl)) (by unfold Func.isWrapper; first | (rw [if_pos (by decide +kernel)]; kernel_rfl) | (rw [if_neg (by decide +kernel)]; exact ⟨rfl, rfl⟩))
    (fun os started H enc _ => lifted os started H enc)

/-- The statement. -/
theorem proved : Rows.SumNumbersSaid := over
#print axioms proved
end Go.Proofs.Ytmhgpbohkdndpaa.sumNumbers
