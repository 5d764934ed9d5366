/-
  RowFinds: whatever the input, the law gives true and leaves its arguments as they were. No other condition.
-/
import Derived.Test.YtkjodlngpdihhaaRows
import Derived.Test.YtkjodlngpdihhaaArg5
import Derived.Test.YtkjodlngpdihhaaRf
import Derived.ProofKit
import Derived.OpenShut
import Derived.ShutString
import Derived.ChangeOld
namespace Go.Proofs.Ytkjodlngpdihhaa.rowFinds
open Go.ChangeShapes Go.WideShapes Go.ChangeAt Go.RowKit
set_option linter.unusedVariables false

theorem own : ownKnob Try.prog.godebug = none := by kernel_rfl
theorem laidOut : laidOutB Try.prog = true := by kernel_rfl

set_option maxRecDepth 100000 in
set_option maxHeartbeats 4000000 in
theorem walk (A0 : Option Addr) (n0 cap0 : Nat) (l0 : List C) (A1 : Option Addr) (n1 cap1 : Nat) (l1 : List V) (s2 : ByteArray) (x3 : Int) (w : World) (h0 : Cs w A0 n0 cap0 l0) (S0 : ∀ y ∈ l0, y.1.size ≤ maxLen) (h1 : Vs w A1 n1 cap1 l1) (N1 : okN l1) (u2 : s2.size ≤ maxLen) (w3_ : (Lit.int .i64 x3).wf = true) :
    Calls Try.prog 6 #[.slice A0 n0 cap0, .slice A1 n1 cap1, .string s2, .int .i64 x3] w fun e w' => e = .returned (.bool true) ∧ Ev w w' := by
  exact rf_walk A0 n0 cap0 l0 A1 n1 cap1 l1 s2 x3 w h0 h1 (by have h := w3_; simp [Lit.wf, IntKind.min, IntKind.max, IntKind.signed, IntKind.bits] at h; omega)

set_option maxRecDepth 100000 in
theorem lifted (os : Os) (started : os.Started) (H : Type) (enc : TypeId × Value → H) :
    ReturnsInHanded {} Try.checked os 6 .any (Rows.rowFindsSpec.pre6 enc Try.prog Try.f6 Rows.rowFindsRow.domain false) (Rows.rowFindsSpec.post enc Try.prog Try.f6 false true false false) := by
  refine returnsInHanded_of_change (C := Try.checked) own started (by kernel_rfl) Try.func6
    (ChangeSpec.witness6 (enc := enc) (C := Try.checked) false ⟨#[], #[.slice none 0 0, .slice none 0 0, .string ⟨#[]⟩, .int .i64 0], []⟩ 8 (by kernel_rfl) (by kernel_rfl) (by kernel_rfl) (by kernel_rfl)) ?_
  intro W base args ds gs before hval0 hW hcnd _
  have hval : ∀ (j : Nat) t v, Try.f6.params[j]? = some t → args[j]? = some v → Value.okWide Try.prog W .any base t v := hval0
  have hW' := hW
  obtain ⟨p, q, hA0, hV, rfl, hfz, hnd⟩ := hW
  have hA : DataW.TrodAll enc Try.prog W 0 (fun _ => true) true Try.f6.params.toList args.toList ds p := hA0
  rw [Try.params6] at hA hval
  obtain ⟨v0, vs0, d0, ds0, p0, q0, hargs, rfl, rfl, h0, r0⟩ := trodAll_cons hA
  obtain ⟨v1, vs1, d1, ds1, p1, q1, rfl, rfl, rfl, h1, r1⟩ := trodAll_cons r0
  obtain ⟨v2, vs2, d2, ds2, p2, q2, rfl, rfl, rfl, h2, r2⟩ := trodAll_cons r1
  obtain ⟨v3, vs3, d3, ds3, p3, q3, rfl, rfl, rfl, h3, r3⟩ := trodAll_cons r2
  obtain ⟨rfl, rfl, rfl⟩ := trodAll_nil r3
  obtain rfl : args = #[v0, v1, v2, v3] := by cases args; simp_all
  obtain ⟨rfl, rfl⟩ := trodVars_none hV
  obtain ⟨A0, n0, cap0, rfl⟩ := okWide_slice Try.underlying24 (hval 0 24 v0 rfl rfl)
  have k0 := h0
  have lt0 : ∀ x ∈ p0, x.block < W.heap.size := by obtain ⟨m, hm⟩ := k0; exact DataW.trod_lt m _ _ _ hm
  obtain ⟨l0, b0, S0, _⟩ : ∃ l, Cs W A0 n0 cap0 l ∧ (∀ y ∈ l, y.1.size ≤ maxLen) ∧ (d0 = .nil ∧ l = [] ∨ ∃ rest, d0 = .slice (l.map cdat) rest) := by
    obtain ⟨fuel, hf⟩ := h0
    exact open_cs (x := (d0, p0)) hf
  obtain ⟨A1, n1, cap1, rfl⟩ := okWide_slice Try.underlying35 (hval 1 35 v1 rfl rfl)
  have k1 := h1
  have lt1 : ∀ x ∈ p1, x.block < W.heap.size := by obtain ⟨m, hm⟩ := k1; exact DataW.trod_lt m _ _ _ hm
  obtain ⟨l1, b1, N1, dd1⟩ : ∃ l, Vs W A1 n1 cap1 l ∧ okN l ∧ (d1 = .nil ∧ l = [] ∨ ∃ rest, d1 = .slice (l.map vdat) rest) := by
    obtain ⟨fuel, hf⟩ := h1
    exact open_vs (x := (d1, p1)) hf
  obtain ⟨s2, rfl, rfl, rfl, u2⟩ := ChangeMaps.open_string Try.underlying9 (hval 2 9 v2 rfl rfl) h2
  obtain ⟨x3, rfl, rfl, rfl, w3⟩ := open_int Try.underlying3 (hval 3 3 v3 rfl rfl) h3
  clear hA0 hval0
  refine (walk A0 n0 cap0 l0 A1 n1 cap1 l1 s2 x3 W b0 S0 b1 N1 u2 w3).mono fun e W' ⟨he, bel⟩ => ?_
  subst he
  exact ⟨_, rfl, _, _, _, [], _, [], hW', trodAll_mk1 (shut_bool Try.underlying4 _), (trodAll_cons_mk (Below.trod laidOut (by kernel_rfl) (of_decide_eq_true (by kernel_rfl)) k0 bel lt0) (trodAll_cons_mk (Below.trod laidOut (by kernel_rfl) (of_decide_eq_true (by kernel_rfl)) k1 bel lt1) (trodAll_cons_mk (ChangeMaps.shut_string Try.underlying9 u2) (trodAll_cons_mk (shut_int Try.underlying3 w3) trodAll_mk0)))), rfl, bel.frame _, fun h => by cases h⟩

theorem over : Rows.rowFindsRow.holds Try.pinned (OpenSpec.ofChange Rows.rowFindsSpec) :=
  OpenClaim.holds_of_wide 6 Try.f6 rfl rfl rfl rfl rfl rfl rfl ⟨rfl, rfl, rfl, rfl, rfl⟩ rfl rfl rfl rfl rfl (by kernel_rfl) Try.func6 (by kernel_rfl)
    (of_decide_eq_true (by kernel_rfl)) (by unfold Func.isWrapper; first | (rw [if_pos (by decide +kernel)]; kernel_rfl) | (rw [if_neg (by decide +kernel)]; exact ⟨rfl, rfl⟩))
    (fun os started H enc _ => lifted os started H enc)

/-- The statement. -/
theorem proved : Rows.RowFindsSaid := over
#print axioms proved
end Go.Proofs.Ytkjodlngpdihhaa.rowFinds
