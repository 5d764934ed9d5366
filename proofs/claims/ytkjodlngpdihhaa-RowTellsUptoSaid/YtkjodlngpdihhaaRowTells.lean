/-
  RowTells: whatever the input of bulk at most 1048576, the law gives true and leaves its arguments as they were. No other condition.
-/
import Derived.Test.YtkjodlngpdihhaaRows
import Derived.Test.YtkjodlngpdihhaaArg5
import Derived.Test.YtkjodlngpdihhaaRt
import Derived.ProofKit
import Derived.OpenShut
import Derived.ShutString
import Derived.ChangeOld
import Derived.JoinedCond
namespace Go.Proofs.Ytkjodlngpdihhaa.rowTells
open Go.ChangeShapes Go.WideShapes Go.ChangeAt Go.RowKit
set_option linter.unusedVariables false

theorem own : ownKnob Try.prog.godebug = none := by kernel_rfl
theorem laidOut : laidOutB Try.prog = true := by kernel_rfl

set_option maxRecDepth 100000 in
set_option maxHeartbeats 4000000 in
theorem walk (A0 : Option Addr) (n0 cap0 : Nat) (l0 : List V) (A1 : Option Addr) (n1 cap1 : Nat) (l1 : List V) (A2 : Option Addr) (n2 cap2 : Nat) (l2 : List C) (s3 : ByteArray) (A4 : Option Addr) (n4 cap4 : Nat) (l4 : List UInt8) (w : World) (h0 : Vs w A0 n0 cap0 l0) (N0 : okN l0) (h1 : Vs w A1 n1 cap1 l1) (N1 : okN l1) (h2 : Cs w A2 n2 cap2 l2) (S2 : ∀ y ∈ l2, y.1.size ≤ maxLen) (u3 : s3.size ≤ maxLen) (h4 : Bs w A4 n4 cap4 l4) (hb : sizeR l0 + n4 ≤ 8388608) :
    Calls Try.prog 4 #[.slice A0 n0 cap0, .slice A1 n1 cap1, .slice A2 n2 cap2, .string s3, .slice A4 n4 cap4] w fun e w' => e = .returned (.bool true) ∧ Ev w w' := by
  exact rt_walk A0 n0 cap0 l0 A1 n1 cap1 l1 A2 n2 cap2 l2 s3 A4 n4 cap4 l4 w h0 N0 h1 h2 S2 u3 h4 hb

set_option maxRecDepth 100000 in
theorem lifted (os : Os) (started : os.Started) (H : Type) (enc : TypeId × Value → H) (F : Stop.Interp) :
    ReturnsInHanded {} Try.checked os 4 .any ((Rows.OpenSpec.upto Rows.rowTellsSpec).pre6 enc Try.prog Try.f4 Rows.rowTellsUptoRow.domain false) (((Rows.OpenSpec.upto Rows.rowTellsSpec).at F).post enc Try.prog Try.f4 false true false false) := by
  refine returnsInHanded_of_cond (C := Try.checked) (s := Rows.OpenSpec.upto Rows.rowTellsSpec) (k := Rows.uptoSmall) rfl own started (by kernel_rfl) Try.func4
    (OpenSpec.witness (enc := enc) (C := Try.checked) (s := Rows.OpenSpec.upto Rows.rowTellsSpec) (k := Rows.uptoSmall) rfl false ⟨#[], #[.slice none 0 0, .slice none 0 0, .slice none 0 0, .string ⟨#[]⟩, .slice none 0 0], []⟩ 8 (by kernel_rfl) (by kernel_rfl) (by kernel_rfl)
      (x := ([.nil, .nil, .nil, .lit (.string []), .nil], [], [])) (by kernel_rfl) rfl (by kernel_rfl)) ?_
  intro W base args ds gs before hval0 hW _ hk _
  have hval : ∀ (j : Nat) t v, Try.f4.params[j]? = some t → args[j]? = some v → Value.okWide Try.prog W .any base t v := hval0
  have hW' := hW
  obtain ⟨p, q, hA0, hV, rfl, hfz, hnd⟩ := hW
  have hA : DataW.TrodAll enc Try.prog W 0 (fun _ => true) true Try.f4.params.toList args.toList ds p := hA0
  rw [Try.params4] at hA hval
  obtain ⟨v0, vs0, d0, ds0, p0, q0, hargs, rfl, rfl, h0, r0⟩ := trodAll_cons hA
  obtain ⟨v1, vs1, d1, ds1, p1, q1, rfl, rfl, rfl, h1, r1⟩ := trodAll_cons r0
  obtain ⟨v2, vs2, d2, ds2, p2, q2, rfl, rfl, rfl, h2, r2⟩ := trodAll_cons r1
  obtain ⟨v3, vs3, d3, ds3, p3, q3, rfl, rfl, rfl, h3, r3⟩ := trodAll_cons r2
  obtain ⟨v4, vs4, d4, ds4, p4, q4, rfl, rfl, rfl, h4, r4⟩ := trodAll_cons r3
  obtain ⟨rfl, rfl, rfl⟩ := trodAll_nil r4
  obtain rfl : args = #[v0, v1, v2, v3, v4] := by cases args; simp_all
  obtain ⟨rfl, rfl⟩ := trodVars_none hV
  obtain ⟨A0, n0, cap0, rfl⟩ := okWide_slice Try.underlying35 (hval 0 35 v0 rfl rfl)
  have k0 := h0
  have lt0 : ∀ x ∈ p0, x.block < W.heap.size := by obtain ⟨m, hm⟩ := k0; exact DataW.trod_lt m _ _ _ hm
  obtain ⟨l0, b0, N0, dd0⟩ : ∃ l, Vs W A0 n0 cap0 l ∧ okN l ∧ (d0 = .nil ∧ l = [] ∨ ∃ rest, d0 = .slice (l.map vdat) rest) := by
    obtain ⟨fuel, hf⟩ := h0
    exact open_vs (x := (d0, p0)) hf
  have dd0 : sizeR l0 ≤ 6 * Rows.uptoBulk d0 := bulk_row2 dd0
  obtain ⟨A1, n1, cap1, rfl⟩ := okWide_slice Try.underlying35 (hval 1 35 v1 rfl rfl)
  have k1 := h1
  have lt1 : ∀ x ∈ p1, x.block < W.heap.size := by obtain ⟨m, hm⟩ := k1; exact DataW.trod_lt m _ _ _ hm
  obtain ⟨l1, b1, N1, dd1⟩ : ∃ l, Vs W A1 n1 cap1 l ∧ okN l ∧ (d1 = .nil ∧ l = [] ∨ ∃ rest, d1 = .slice (l.map vdat) rest) := by
    obtain ⟨fuel, hf⟩ := h1
    exact open_vs (x := (d1, p1)) hf
  obtain ⟨A2, n2, cap2, rfl⟩ := okWide_slice Try.underlying24 (hval 2 24 v2 rfl rfl)
  have k2 := h2
  have lt2 : ∀ x ∈ p2, x.block < W.heap.size := by obtain ⟨m, hm⟩ := k2; exact DataW.trod_lt m _ _ _ hm
  obtain ⟨l2, b2, S2, _⟩ : ∃ l, Cs W A2 n2 cap2 l ∧ (∀ y ∈ l, y.1.size ≤ maxLen) ∧ (d2 = .nil ∧ l = [] ∨ ∃ rest, d2 = .slice (l.map cdat) rest) := by
    obtain ⟨fuel, hf⟩ := h2
    exact open_cs (x := (d2, p2)) hf
  obtain ⟨s3, rfl, rfl, rfl, u3⟩ := ChangeMaps.open_string Try.underlying9 (hval 3 9 v3 rfl rfl) h3
  obtain ⟨A4, n4, cap4, rfl⟩ := okWide_slice Try.underlying33 (hval 4 33 v4 rfl rfl)
  have k4 := h4
  have lt4 : ∀ x ∈ p4, x.block < W.heap.size := by obtain ⟨m, hm⟩ := k4; exact DataW.trod_lt m _ _ _ hm
  have dd4 : n4 ≤ Rows.uptoBulk d4 := by
    obtain ⟨fuel, hf⟩ := h4
    exact bulk_slice Try.underlying33 (x := (d4, p4)) hf
  obtain ⟨l4, b4⟩ : ∃ l, Bs W A4 n4 cap4 l := by
    obtain ⟨fuel, hf⟩ := h4
    rcases open_ints Try.underlying33 Try.underlying5 (by kernel_rfl) hf with ⟨hcs, _⟩ | ⟨x, l, c, zs, hcs, _, hl, hm, hz, _, hcell, hwz⟩
    · simp [Value.cells] at hcs
      obtain ⟨rfl, rfl, rfl⟩ := hcs
      exact ⟨[], Bs.nil_ W⟩
    · simp [Value.cells] at hcs
      obtain ⟨rfl, rfl, rfl⟩ := hcs
      exact Bs.came hl hm (by simpa using hz) hcell hwz
  have hk2 : Rows.uptoSmall H [d0, d1, d2, .lit (.string s3.data.toList), d4] = true := by simpa using hk
  have hbk : Rows.uptoBulkAll [d0, d1, d2, .lit (.string s3.data.toList), d4] ≤ 1048576 := of_decide_eq_true hk2
  simp only [Rows.uptoBulkAll] at hbk
  have hb : sizeR l0 + n4 ≤ 8388608 := by omega
  clear hA0 hval0
  refine (walk A0 n0 cap0 l0 A1 n1 cap1 l1 A2 n2 cap2 l2 s3 A4 n4 cap4 l4 W b0 N0 b1 N1 b2 S2 u3 b4 hb).mono fun e W' ⟨he, bel⟩ => ?_
  subst he
  exact ⟨_, rfl, _, _, _, [], _, [], hW', trodAll_mk1 (shut_bool Try.underlying4 _), (trodAll_cons_mk (Below.trod laidOut (by kernel_rfl) (of_decide_eq_true (by kernel_rfl)) k0 bel lt0) (trodAll_cons_mk (Below.trod laidOut (by kernel_rfl) (of_decide_eq_true (by kernel_rfl)) k1 bel lt1) (trodAll_cons_mk (Below.trod laidOut (by kernel_rfl) (of_decide_eq_true (by kernel_rfl)) k2 bel lt2) (trodAll_cons_mk (ChangeMaps.shut_string Try.underlying9 u3) (trodAll_cons_mk (Below.trod laidOut (by kernel_rfl) (of_decide_eq_true (by kernel_rfl)) k4 bel lt4) trodAll_mk0))))), rfl, bel.frame _, fun h => by cases h⟩

theorem proved : Rows.RowTellsUptoSaid :=
  OpenClaim.holds_of_cond 4 Try.f4 rfl rfl rfl rfl rfl rfl rfl ⟨rfl, rfl, rfl, rfl, rfl⟩ rfl rfl rfl rfl rfl (by kernel_rfl) Try.func4 (by kernel_rfl)
    (of_decide_eq_true (by kernel_rfl)) (by unfold Func.isWrapper; first | (rw [if_pos (by decide +kernel)]; kernel_rfl) | (rw [if_neg (by decide +kernel)]; exact ⟨rfl, rfl⟩))
    (fun os started H enc _ F => lifted os started H enc F)
#print axioms proved
end Go.Proofs.Ytkjodlngpdihhaa.rowTells
