/-
  TallyNumbers: whatever the input, the law gives true and leaves its arguments as they were. No condition.
-/
import Derived.Test.YtjlibmlcphbkoaaRows
import Derived.Test.YtjlibmlcphbkoaaTallyInt
import Derived.Test.YtjlibmlcphbkoaaRegion
import Derived.ProofKit
import Derived.OpenShut
import Derived.ShutString
import Derived.ChangeOld
namespace Go.Proofs.Ytjlibmlcphbkoaa.tallyNumbers
open Go.ChangeShapes Go.WideShapes Go.ChangeAt Go.RowKit
set_option linter.unusedVariables false
theorem right_no (x y : Nat) (w : World) (h : Calls Try.prog 19 #[.float .f64 x] w fun e w' => e = .returned (.bool false) ∧ w = w') : Calls Try.prog 10 #[.complex .f64 x y] w fun e w' => e = .returned (.bool false) ∧ w = w' := by
  have H := Lib.hid h
  clear h
  go_enter Try.func10, Try.ntmps10
  go_wp2_with ((with_reducible refine H.out.mono ?_); rintro e w' ⟨rfl, rfl⟩)
  go_ret
  exact ⟨rfl, rfl⟩
theorem flip_no (x y : Nat) (w : World) (h : Calls Try.prog 10 #[.complex .f64 x y] w fun e w' => e = .returned (.bool false) ∧ w = w') : Calls Try.prog 12 #[.complex .f64 x y] w fun e w' => e = .returned (.complex .f64 (fl 0) (fl 0)) ∧ w = w' := by
  have H := Lib.hid (parts_no x y w h)
  clear h
  go_enter Try.func12, Try.ntmps12
  go_wp2_with (first | ((with_reducible refine H.out.mono ?_); rintro e w' ⟨rfl, rfl⟩) | ((with_reducible refine (of_any _ _ w).mono ?_); rintro e w' ⟨rfl, rfl⟩))
  go_ret
  exact ⟨rfl, rfl⟩
/-- A number below 0 is no part. -/
theorem isPart_below (x : Nat) (h : FloatKind.f64.format.order 0 x = some .gt) (w : World) : Calls Try.prog 19 #[.float .f64 x] w fun e w' => e = .returned (.bool false) ∧ w = w' := by
  go_enter Try.func19, Try.ntmps19
  go_wp2
  go_ret
  exact ⟨rfl, rfl⟩
/-- A number above 2^50 is no part. -/
theorem isPart_above (x : Nat) (h : FloatKind.f64.format.order 0 x = some .lt) (h' : FloatKind.f64.format.order x 4832362400168542208 = some .gt) (w : World) : Calls Try.prog 19 #[.float .f64 x] w fun e w' => e = .returned (.bool false) ∧ w = w' := by
  go_enter Try.func19, Try.ntmps19
  go_wp2
  go_ret
  exact ⟨rfl, rfl⟩
theorem trunc_half (w : World) : Calls Try.prog 20 #[.float .f64 4602678819172646912] w fun e w' => e = .returned (.float .f64 0) ∧ w = w' := by
  have hr := fun w : World => run_entry (P := Try.prog) (w := w) Try.func21 (by kernel_rfl) (by kernel_rfl) (by kernel_rfl) (args := #[.float .f64 4602678819172646912]) (v := .float .f64 0) (e := Extern.MathFloor.toIntegral "math.archTrunc" .zero) (by kernel_rfl) (by kernel_rfl)
  go_enter Try.func20, Try.ntmps20
  go_wp2
  go_ret
  exact ⟨rfl, rfl⟩
/-- 0.5 is no part. -/
theorem isPart_half (w : World) : Calls Try.prog 19 #[.float .f64 4602678819172646912] w fun e w' => e = .returned (.bool false) ∧ w = w' := by
  have o1 : FloatKind.f64.format.order 0 4602678819172646912 = some .lt := by decide +kernel
  have o2 : FloatKind.f64.format.order 4602678819172646912 4832362400168542208 = some .lt := by decide +kernel
  have o3 : FloatKind.f64.format.order 4602678819172646912 0 = some .gt := by decide +kernel
  have H := Lib.hid trunc_half
  go_enter Try.func19, Try.ntmps19
  go_wp2_with ((with_reducible refine (H.out w).mono ?_); rintro e w' ⟨rfl, rfl⟩)
  go_ret
  exact ⟨rfl, rfl⟩

theorem own : ownKnob Try.prog.godebug = none := by kernel_rfl
theorem laidOut : laidOutB Try.prog = true := by kernel_rfl

set_option maxRecDepth 100000 in
set_option maxHeartbeats 4000000 in
theorem walk  (w : World) :
    Calls Try.prog 3 #[] w fun e w' => e = .returned (.bool true) ∧ Ev w w' := by
  have D1 := Lib.hid (fun w : World => add_o 1125899906842624 0 1 0 (by unfold Part; omega) (by unfold Part; omega) (by unfold Part; omega) (by unfold Part; omega) (Lib.hid (by omega)) w)
  have D2 := Lib.hid (fun w : World => add_i 1125899906842624 0 1 1 1125899906842624 0 1125899906842624 (by unfold Part; omega) (by unfold Part; omega) (by unfold Part; omega) (by unfold Part; omega) (Lib.hid (by omega)) (by unfold Redi; omega) (by unfold Part; omega) (by unfold Part; omega) w)
  have D3 := Lib.hid (fun w : World => times_o 1125899906842624 0 2 0 1125899906842624 2 1125899906842624 2 (Lib.hid (by omega)) (Lib.hid (by omega)) (by unfold Part; omega) (by unfold Part; omega) (by unfold Part; omega) (by unfold Part; omega) (Lib.hid (by omega)) (Lib.hid (by omega)) (by omega) (by omega) w)
  have D4 := Lib.hid (fun w : World => times_i 1125899906842624 0 0 1 0 1125899906842624 1125899906842624 (-1) (-1125899906842624) (Lib.hid (by omega)) (Lib.hid (by omega)) (by unfold Part; omega) (by unfold Part; omega) (by unfold Part; omega) (by unfold Part; omega) (Lib.hid (by omega)) (by unfold Redi; omega) (by unfold Part; omega) (by unfold Part; omega) w)
  have D5 := Lib.hid (fun w : World => parts_no 4602678819172646912 4607182418800017408 w (right_no _ _ w (isPart_half w)))
  have D6 := Lib.hid (fun w : World => parts_no 13830554455654793216 0 w (right_no _ _ w (isPart_below _ (by decide +kernel) w)))
  have D7 := Lib.hid (fun w : World => times_i 5 5 1125899906842624 0 0 0 0 1125899906842624 0 (Lib.hid (by omega)) (Lib.hid (by omega)) (by unfold Part; omega) (by unfold Part; omega) (by unfold Part; omega) (by unfold Part; omega) (Lib.hid (by omega)) (by unfold Redi; omega) (by unfold Part; omega) (by unfold Part; omega) w)
  have G0 := Lib.hid (fun w : World => times_o 67108864 0 0 67108864 67108864 (-67108864) 67108864 67108864 (Lib.hid (by omega)) (Lib.hid (by omega)) (by unfold Part; omega) (by unfold Part; omega) (by unfold Part; omega) (by unfold Part; omega) (Lib.hid (by omega)) (Lib.hid (by omega)) (by omega) (by omega) w)
  have G1 := Lib.hid (fun w : World => times_o 4294967296 0 0 4294967296 4294967296 (-4294967296) 4294967296 4294967296 (Lib.hid (by omega)) (Lib.hid (by omega)) (by unfold Part; omega) (by unfold Part; omega) (by unfold Part; omega) (by unfold Part; omega) (Lib.hid (by omega)) (Lib.hid (by omega)) (by omega) (by omega) w)
  have G2 := Lib.hid (fun w : World => times_o 1099511627776 0 0 1099511627776 1099511627776 (-1099511627776) 1099511627776 1099511627776 (Lib.hid (by omega)) (Lib.hid (by omega)) (by unfold Part; omega) (by unfold Part; omega) (by unfold Part; omega) (by unfold Part; omega) (Lib.hid (by omega)) (Lib.hid (by omega)) (by omega) (by omega) w)
  have G3 := Lib.hid (fun w : World => times_o 1125899906842624 0 0 1125899906842624 1125899906842624 (-1125899906842624) 1125899906842624 1125899906842624 (Lib.hid (by omega)) (Lib.hid (by omega)) (by unfold Part; omega) (by unfold Part; omega) (by unfold Part; omega) (by unfold Part; omega) (Lib.hid (by omega)) (Lib.hid (by omega)) (by omega) (by omega) w)
  have D8 := Lib.hid (fun w : World => times_i 33554432 0 0 33554432 0 1125899906842624 33554432 (-33554432) (-1125899906842624) (Lib.hid (by omega)) (Lib.hid (by omega)) (by unfold Part; omega) (by unfold Part; omega) (by unfold Part; omega) (by unfold Part; omega) (Lib.hid (by omega)) (by unfold Redi; omega) (by unfold Part; omega) (by unfold Part; omega) w)
  have D9 := Lib.hid (fun w : World => right_no (fl (-1)) (fl 0) w (isPart_below _ (by decide +kernel) w))
  have D10 := Lib.hid (fun w : World => right_no 4832362400168542212 0 w (isPart_above _ (by decide +kernel) (by decide +kernel) w))
  have kr := fun w : World => right_i 0 0 (by unfold Part; omega) (by unfold Part; omega) w
  rw [fl_zero] at kr
  have D11 := Lib.hid kr
  have kd := fun w : World => reduce_i 5 5 0 0 (by unfold Part; omega) (by unfold Part; omega) (by unfold Redi; omega) w
  rw [show fl 5 = 4617315517961601024 by decide +kernel] at kd
  have D12 := Lib.hid kd
  have kf := fun w : World => flip_i 2 0 (by unfold Part; omega) (by unfold Part; omega) w
  have D13 : Hid (∀ w : World, Calls Try.prog 12 #[.complex .f64 4611686018427387904 0] w fun e w' => e = .returned (.complex .f64 (fl 0) (fl 2)) ∧ w = w') := fun w => by
    have := kf w
    exact this
  have D14 := Lib.hid (fun w : World => flip_no 13835058055282163712 0 w (right_no _ _ w (isPart_below _ (by decide +kernel) w)))
  clear kr kd kf
  have o1 : FloatKind.f64.format.order (fl 0) 0 = some .eq := by decide +kernel
  have o2 : FloatKind.f64.format.order (fl 1125899906842624) 4832362400168542208 = some .eq := by decide +kernel
  have o3 : FloatKind.f64.format.order (fl 1125899906842624) (fl 1125899906842624) = some .eq := by decide +kernel
  have o4 : FloatKind.f64.format.order (fl 0) (fl 0) = some .eq := by decide +kernel
  have o5 : FloatKind.f64.format.order (fl 2) 4611686018427387904 = some .eq := by decide +kernel
  have o6 : FloatKind.f64.format.order 0 0 = some .eq := by decide +kernel
  go_enter Try.func3, Try.ntmps3
  go_wp2_with (first | ((with_reducible refine (of_any _ _ _).mono ?_); rintro e w' ⟨rfl, rfl⟩) | ((with_reducible refine (D1.out _).mono ?_); rintro e w' ⟨rfl, rfl⟩) | ((with_reducible refine (D2.out _).mono ?_); rintro e w' ⟨rfl, rfl⟩) | ((with_reducible refine (D3.out _).mono ?_); rintro e w' ⟨rfl, rfl⟩) | ((with_reducible refine (D4.out _).mono ?_); rintro e w' ⟨rfl, rfl⟩) | ((with_reducible refine (D5.out _).mono ?_); rintro e w' ⟨rfl, rfl⟩) | ((with_reducible refine (D6.out _).mono ?_); rintro e w' ⟨rfl, rfl⟩) | ((with_reducible refine (D7.out _).mono ?_); rintro e w' ⟨rfl, rfl⟩) | ((with_reducible refine (known_any _).mono ?_); rintro e w' ⟨rfl, rfl⟩))
  go_loop [67] (fun t => ∃ k : Nat, k ≤ 4 ∧ t = .int .i64 k) (fun t => 4 - (intOf t).toNat)
  case atStart => exact ⟨0, by omega, rfl⟩
  case round =>
    obtain ⟨k, hk, rfl⟩ := hrel
    have h5 : k = 0 ∨ k = 1 ∨ k = 2 ∨ k = 3 ∨ k = 4 := by omega
    rcases h5 with rfl | rfl | rfl | rfl | rfl
    · have hc : (w.alloc (.cells #[Value.int .i64 67108864, Value.int .i64 4294967296, Value.int .i64 1099511627776, Value.int .i64 1125899906842624] 2)).cell? ⟨w.heap.size, 0, none⟩ = some (.int .i64 67108864) := by rw [World.cell?_alloc_mark]; rfl
      go_wp2_with (first | ((with_reducible refine (of_any _ _ _).mono ?_); rintro e w' ⟨rfl, rfl⟩) | ((with_reducible refine (G0.out _).mono ?_); rintro e w' ⟨rfl, rfl⟩) | ((with_reducible refine (known_any _).mono ?_); rintro e w' ⟨rfl, rfl⟩))
      go_round
      case rel => exact ⟨1, by omega, by go_num⟩
      case measure => simp [intOf]
    · have hc : (w.alloc (.cells #[Value.int .i64 67108864, Value.int .i64 4294967296, Value.int .i64 1099511627776, Value.int .i64 1125899906842624] 2)).cell? ⟨w.heap.size, 1, none⟩ = some (.int .i64 4294967296) := by rw [World.cell?_alloc_mark]; rfl
      go_wp2_with (first | ((with_reducible refine (of_any _ _ _).mono ?_); rintro e w' ⟨rfl, rfl⟩) | ((with_reducible refine (G1.out _).mono ?_); rintro e w' ⟨rfl, rfl⟩) | ((with_reducible refine (known_any _).mono ?_); rintro e w' ⟨rfl, rfl⟩))
      go_round
      case rel => exact ⟨2, by omega, by go_num⟩
      case measure => simp [intOf]
    · have hc : (w.alloc (.cells #[Value.int .i64 67108864, Value.int .i64 4294967296, Value.int .i64 1099511627776, Value.int .i64 1125899906842624] 2)).cell? ⟨w.heap.size, 2, none⟩ = some (.int .i64 1099511627776) := by rw [World.cell?_alloc_mark]; rfl
      go_wp2_with (first | ((with_reducible refine (of_any _ _ _).mono ?_); rintro e w' ⟨rfl, rfl⟩) | ((with_reducible refine (G2.out _).mono ?_); rintro e w' ⟨rfl, rfl⟩) | ((with_reducible refine (known_any _).mono ?_); rintro e w' ⟨rfl, rfl⟩))
      go_round
      case rel => exact ⟨3, by omega, by go_num⟩
      case measure => simp [intOf]
    · have hc : (w.alloc (.cells #[Value.int .i64 67108864, Value.int .i64 4294967296, Value.int .i64 1099511627776, Value.int .i64 1125899906842624] 2)).cell? ⟨w.heap.size, 3, none⟩ = some (.int .i64 1125899906842624) := by rw [World.cell?_alloc_mark]; rfl
      go_wp2_with (first | ((with_reducible refine (of_any _ _ _).mono ?_); rintro e w' ⟨rfl, rfl⟩) | ((with_reducible refine (G3.out _).mono ?_); rintro e w' ⟨rfl, rfl⟩) | ((with_reducible refine (known_any _).mono ?_); rintro e w' ⟨rfl, rfl⟩))
      go_round
      case rel => exact ⟨4, by omega, by go_num⟩
      case measure => simp [intOf]
    · go_wp2_with (first | ((with_reducible refine (of_any _ _ _).mono ?_); rintro e w' ⟨rfl, rfl⟩) | ((with_reducible refine (D8.out _).mono ?_); rintro e w' ⟨rfl, rfl⟩) | ((with_reducible refine (D9.out _).mono ?_); rintro e w' ⟨rfl, rfl⟩) | ((with_reducible refine (D10.out _).mono ?_); rintro e w' ⟨rfl, rfl⟩) | ((with_reducible refine (D11.out _).mono ?_); rintro e w' ⟨rfl, rfl⟩) | ((with_reducible refine (D12.out _).mono ?_); rintro e w' ⟨rfl, rfl⟩) | ((with_reducible refine (D13.out _).mono ?_); rintro e w' ⟨rfl, rfl⟩) | ((with_reducible refine (D14.out _).mono ?_); rintro e w' ⟨rfl, rfl⟩) | ((with_reducible refine (known_any _).mono ?_); rintro e w' ⟨rfl, rfl⟩))
      go_ret
      exact ⟨rfl, Ev.alloc _ _⟩

set_option maxRecDepth 100000 in
theorem lifted (os : Os) (started : os.Started) (H : Type) (enc : TypeId × Value → H) :
    ReturnsInHanded {} Try.checked os 3 .any (Rows.tallyNumbersSpec.pre6 enc Try.prog Try.f3 Rows.tallyNumbersRow.domain false) (Rows.tallyNumbersSpec.post enc Try.prog Try.f3 false true false false) := by
  refine returnsInHanded_of_change (C := Try.checked) own started (by kernel_rfl) Try.func3
    (ChangeSpec.witness6 (enc := enc) (C := Try.checked) false ⟨#[], #[], []⟩ 8 (by kernel_rfl) (by kernel_rfl) (by kernel_rfl) (by kernel_rfl)) ?_
  intro W base args ds gs before hval0 hW hcnd _
  have hval : ∀ (j : Nat) t v, Try.f3.params[j]? = some t → args[j]? = some v → Value.okWide Try.prog W .any base t v := hval0
  have hW' := hW
  obtain ⟨p, q, hA0, hV, rfl, hfz, hnd⟩ := hW
  have hA : DataW.TrodAll enc Try.prog W 0 (fun _ => true) true Try.f3.params.toList args.toList ds p := hA0
  rw [Try.params3] at hA hval
  obtain ⟨rfl, rfl, rfl⟩ := trodAll_none hA
  obtain ⟨rfl, rfl⟩ := trodVars_none hV

  clear hA0 hval0
  refine (walk W).mono fun e W' ⟨he, bel⟩ => ?_
  subst he
  exact ⟨_, rfl, _, _, _, [], _, [], hW', trodAll_mk1 (shut_bool Try.underlying4 _), trodAll_mk0, rfl, bel.frame _, fun h => by cases h⟩

theorem over : Rows.tallyNumbersRow.holds Try.pinned (OpenSpec.ofChange Rows.tallyNumbersSpec) :=
  OpenClaim.holds_of_wide 3 Try.f3 rfl rfl rfl rfl rfl rfl rfl ⟨rfl, rfl, rfl, rfl, rfl⟩ rfl rfl rfl rfl rfl (by kernel_rfl) Try.func3 (by kernel_rfl)
    (of_decide_eq_true (by kernel_rfl)) (by unfold Func.isWrapper; first | (rw [if_pos (by decide +kernel)]; kernel_rfl) | (rw [if_neg (by decide +kernel)]; exact ⟨rfl, rfl⟩))
    (fun os started H enc _ => lifted os started H enc)

/-- The statement. -/
theorem proved : Rows.TallyNumbersSaid := over
#print axioms proved
end Go.Proofs.Ytjlibmlcphbkoaa.tallyNumbers
