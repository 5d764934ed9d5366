/-
  Texts that belong together: Whole numbers of 64 bits: halves, single bits, sizes; what the laws on sums ask. The walk of ExprSums. The walk of ExprBranches.
-/
import Derived.Laws.BitsLemmas
import Derived.Test.YtiiogjpgeginlaaZ19S8
import Derived.Deep.DeepCutAuto
namespace Go.Proofs.Ytiiogjpgeginlaa
open Go.RowKit
set_option linter.unusedVariables false

theorem wrap_i64_small (n : Int) (h0 : 0 ≤ n) (h1 : n < 9223372036854775808) : IntKind.i64.wrap n = n := by rw [IntKind.wrap_i64]; omega
theorem wrap_i64_mod2 (n : Int) : IntKind.i64.wrap n % 2 = n % 2 := by rw [IntKind.wrap_i64]; omega
theorem ofInt64 (n : Int) : (BitVec.ofInt 64 n).toNat = (n % 18446744073709551616).toNat := by rw [BitVec.toNat_ofInt]; rfl
theorem and_one (x : Int) : bits .and .i64 x 1 = x % 2 := by
  show IntKind.i64.wrap ((BitVec.ofInt 64 x &&& BitVec.ofInt 64 1).toNat : Int) = _
  rw [BitVec.toNat_and, ofInt64, show (BitVec.ofInt 64 1).toNat = 1 from rfl, Nat.and_one_is_mod]
  rw [wrap_i64_small _ (by omega) (by omega)]
  omega
theorem and_mod2 (x y : Int) : bits .and .i64 x y % 2 = if x % 2 = 1 ∧ y % 2 = 1 then 1 else 0 := by
  show IntKind.i64.wrap ((BitVec.ofInt 64 x &&& BitVec.ofInt 64 y).toNat : Int) % 2 = _
  rw [wrap_i64_mod2, BitVec.toNat_and, ofInt64, ofInt64]
  generalize hm : (x % 18446744073709551616).toNat = m
  generalize hn : (y % 18446744073709551616).toNat = n
  have hx : x % 2 = ((m % 2 : Nat) : Int) := by omega
  have hy : y % 2 = ((n % 2 : Nat) : Int) := by omega
  have h := Nat.and_mod_two_pow (a := m) (b := n) (n := 1)
  rw [Nat.pow_one] at h
  have h2 : ((m &&& n : Nat) : Int) % 2 = (((m &&& n) % 2 : Nat) : Int) := by omega
  rw [h2, h, hx, hy]
  rcases Nat.mod_two_eq_zero_or_one m with h1 | h1 <;> rcases Nat.mod_two_eq_zero_or_one n with h3 | h3 <;> rw [h1, h3] <;> simp
theorem and_and_one (x y : Int) : bits .and .i64 (bits .and .i64 x y) 1 = if x % 2 = 1 ∧ y % 2 = 1 then 1 else 0 := by rw [and_one, and_mod2]

/-- a>>1 + b>>1 + a&b&1. -/
def halfSum (a b : Int) : Int := a / 2 + b / 2 + (if a % 2 = 1 ∧ b % 2 = 1 then 1 else 0)
theorem halfSum_eq (a b : Int) : halfSum a b = (a + b) / 2 := by unfold halfSum; split <;> omega
def halfDiff (a b : Int) : Int := if a % 2 = 0 ∧ b % 2 = 1 then a / 2 - b / 2 - 1 else a / 2 - b / 2
theorem halfDiff_eq (a b : Int) : halfDiff a b = (a - b) / 2 := by unfold halfDiff; split <;> omega
theorem fit_iff (n : Int) : ((xFit n).2 = 0) ↔ -9223372036854775808 ≤ n ∧ n ≤ 9223372036854775807 := by
  unfold xFit
  split
  · rename_i h; exact ⟨fun _ => h, fun _ => rfl⟩
  · rename_i h; exact ⟨fun e => by simp at e, fun e => absurd e h⟩
theorem fit_kind (n : Int) : xFit n = (vNum n, 0) ∨ xFit n = (v0, 26) := by unfold xFit; split <;> simp
/-- Whether a sum fits, told by its half. -/
theorem sum_fits (a b : Int) : decide ((xFit (a + b)).2 = 0) = (decide (-4611686018427387904 ≤ halfSum a b) && decide (halfSum a b < 4611686018427387904)) := by
  rw [halfSum_eq, ← Bool.decide_and]
  exact decide_eq_decide.2 ((fit_iff _).trans ⟨fun h => by omega, fun h => by omega⟩)
theorem diff_fits (a b : Int) : decide ((xFit (a - b)).2 = 0) = (decide (-4611686018427387904 ≤ halfDiff a b) && decide (halfDiff a b < 4611686018427387904)) := by
  rw [halfDiff_eq, ← Bool.decide_and]
  exact decide_eq_decide.2 ((fit_iff _).trans ⟨fun h => by omega, fun h => by omega⟩)
theorem prod_fits (a b : Int) (ha : a ≠ 0) (hb : b ≠ 0) : decide ((xFit (a * b)).2 = 0) = decide (a.natAbs ≤ (if decide (a < 0) != decide (b < 0) then 9223372036854775808 else 9223372036854775807) / b.natAbs) := by
  refine decide_eq_decide.2 ((fit_iff _).trans ?_)
  rw [Nat.le_div_iff_mul_le (by omega), ← Int.natAbs_mul]
  have hs : (a < 0 ∧ 0 < b ∨ 0 < a ∧ b < 0) → a * b < 0 := fun h => by
    rcases h with ⟨h1, h2⟩ | ⟨h1, h2⟩
    · exact Int.mul_neg_of_neg_of_pos h1 h2
    · exact Int.mul_neg_of_pos_of_neg h1 h2
  have hp : (a < 0 ∧ b < 0 ∨ 0 < a ∧ 0 < b) → 0 < a * b := fun h => by
    rcases h with ⟨h1, h2⟩ | ⟨h1, h2⟩
    · exact Int.mul_pos_of_neg_of_neg h1 h2
    · exact Int.mul_pos h1 h2
  generalize a * b = c at *
  by_cases h1 : a < 0
  · by_cases h2 : b < 0
    · have := hp (.inl ⟨h1, h2⟩); simp only [h1, h2, decide_true, bne_self_eq_false, Bool.false_eq_true, if_false]; omega
    · have := hs (.inl ⟨h1, by omega⟩); simp only [h1, h2, decide_true, decide_false, Bool.bne_false, if_true]; omega
  · by_cases h2 : b < 0
    · have := hs (.inr ⟨by omega, h2⟩); simp only [h1, h2, decide_true, decide_false, Bool.bne_true, Bool.not_false, if_true]; omega
    · have := hp (.inr ⟨by omega, by omega⟩); simp only [h1, h2, decide_false, bne_self_eq_false, Bool.false_eq_true, if_false]; omega
end Go.Proofs.Ytiiogjpgeginlaa

namespace Go.Proofs.Ytiiogjpgeginlaa
open Go.RowKit
set_option linter.unusedVariables false

/-- What stays through ExprSums: the row. -/
structure NuS (w0 : World) (A : Option Addr) (n cap : Nat) (a b : Int) (w : World) : Prop where
  v : Vs w A n cap ([a, b].map numV)
  all : Ev w0 w
theorem NuS.ev {w0 : World} {A : Option Addr} {n cap : Nat} {a b : Int} {w w' : World} (h : NuS w0 A n cap a b w) (hE : Ev w w') : NuS w0 A n cap a b w' := ⟨h.v.ev hE, h.all.trans hE⟩
theorem fits_nums2 (a b : Int) : fitsL ucols ([a, b].map numV) = true := by kernel_rfl
/-- A number's size. -/
theorem size_walk (n : Int) (w : World) (hn : i64R n) : Calls Try.prog 29 #[.int .i64 n] w fun e w' => e = .returned (.int .u64 (n.natAbs : Int)) ∧ w = w' := by
  unfold i64R at hn
  by_cases h : n < 0
  · have i1 : wrap64 (n + 1) = n + 1 := by unfold wrap64; omega
    have i2 : wrap64 (-(n + 1)) = -(n + 1) := by unfold wrap64; omega
    have i3 : (-(n + 1)) % 18446744073709551616 = -(n + 1) := by omega
    have hab : (n.natAbs : Int) = -n := Int.ofNat_natAbs_of_nonpos (by omega)
    have i4 : (-(n + 1) + 1) % 18446744073709551616 = (n.natAbs : Int) := by rw [hab]; omega
    have HAB := Lib.hid hab
    clear hab
    go_enter Try.func29, Try.ntmps29
    go_wp2_with fail
    go_ret
    refine ⟨?_, rfl⟩
    show Ending.returned (Value.int .u64 (-(n + 1) + 1)) = _
    rw [HAB.out, show -(n + 1) + 1 = -n by omega]
  · have HAB := Lib.hid (Int.natAbs_of_nonneg (show 0 ≤ n by omega))
    have i3 : n % 18446744073709551616 = (n.natAbs : Int) := by rw [HAB.out]; omega
    go_enter Try.func29, Try.ntmps29
    go_wp2_with fail
    go_ret
    refine ⟨?_, rfl⟩
    show Ending.returned (Value.int .u64 n) = _
    rw [HAB.out]

/-- What is told of a sum: it fits, or it is refused. -/
def Told (n m y : Int) (s k : Int) : Prop := (-9223372036854775808 ≤ n ∧ n ≤ 9223372036854775807) ∧ m = n ∧ y = 0 ∧ k = 1 ∨ ¬ (-9223372036854775808 ≤ n ∧ n ≤ 9223372036854775807) ∧ m = 0 ∧ y = 26 ∧ k = 0
theorem fit_told (n : Int) : ∃ k m y, xFit n = ((k, m, ⟨#[]⟩), y) ∧ Told n m y 0 k := by
  unfold xFit Told
  split
  · rename_i h; exact ⟨1, n, 0, rfl, .inl ⟨h, rfl, rfl, rfl⟩⟩
  · rename_i h; exact ⟨0, 0, 26, rfl, .inr ⟨h, rfl, rfl, rfl⟩⟩

set_option maxRecDepth 100000 in
set_option maxHeartbeats 16000000 in
theorem sums_walk (a b : Int) (w : World) (ha : i64R a) (hb : i64R b) :
    Calls Try.prog 6 #[.int .i64 a, .int .i64 b] w fun e w' => e = .returned (.bool true) ∧ Ev w w' := by
  obtain ⟨k1, m1, y1, hr1, T1⟩ := fit_told (a + b)
  obtain ⟨k2, m2, y2, hr2, T2⟩ := fit_told (a - b)
  obtain ⟨k3, m3, y3, hr3, T3⟩ := fit_told (a * b)
  have HN : Hid (∀ w, Calls Try.prog 22 #[.slice (some ⟨w.heap.size, 0, none⟩) 2 2] (w.alloc (.cells #[.int .i64 a, .int .i64 b] 2)) fun e w' => ∃ A m cap, e = .returned (.slice A m cap) ∧ Vs w' A m cap ([a, b].map numV) ∧ Ev w w') := Lib.hid fun w1 => nums_lit [a, b] 2 rfl (by decide) w1 _ rfl
  have HU := Lib.hid keep_u
  have HF := fun w1 A (hC : Cs w1 (some A) 2 2 ucols) (A3 : Option Addr) (n3 cap3 : Nat) (hV : Vs w1 A3 n3 cap3 ([a, b].map numV)) => row_fits w1 hC hV
  rw [fits_nums2] at HF
  have HF := Lib.hid HF
  have HZa := Lib.hid (fun w1 => size_walk a w1 ha)
  have HZb := Lib.hid (fun w1 => size_walk b w1 hb)
  have HKn := Lib.hid (fun w1 => known8_any w1)
  have HO1 := Lib.hid (of_at ⟨#[40, 97, 100, 100, 32, 97, 32, 99, 41]⟩ _ xOf_add xOk_add (by decide))
  have HE1 := Lib.hid (eval_at _ ucols ([a, b].map numV) k1 m1 ⟨#[]⟩ y1 ((value_add a b).trans hr1) (by decide +kernel) (by decide +kernel) (fair_nums (l := [a, b]) (by simp [ha, hb])))
  have HO2 := Lib.hid (of_at ⟨#[40, 115, 117, 98, 32, 97, 32, 99, 41]⟩ _ xOf_sub xOk_sub (by decide))
  have HE2 := Lib.hid (eval_at _ ucols ([a, b].map numV) k2 m2 ⟨#[]⟩ y2 ((value_sub a b).trans hr2) (by decide +kernel) (by decide +kernel) (fair_nums (l := [a, b]) (by simp [ha, hb])))
  have HO3 := Lib.hid (of_at ⟨#[40, 109, 117, 108, 32, 97, 32, 99, 41]⟩ _ xOf_mul xOk_mul (by decide))
  have HE3 := Lib.hid (eval_at _ ucols ([a, b].map numV) k3 m3 ⟨#[]⟩ y3 ((value_mul a b).trans hr3) (by decide +kernel) (by decide +kernel) (fair_nums (l := [a, b]) (by simp [ha, hb])))
  clear hr1 hr2 hr3
  obtain ⟨X, hX⟩ : ∃ X, X = halfSum a b := ⟨_, rfl⟩
  obtain ⟨D, hD⟩ : ∃ D, D = halfDiff a b := ⟨_, rfl⟩
  obtain ⟨P, hP⟩ : ∃ P, P = a / 2 + b / 2 := ⟨_, rfl⟩
  obtain ⟨t, ht⟩ : ∃ t : Int, t = if a % 2 = 1 ∧ b % 2 = 1 then 1 else 0 := ⟨_, rfl⟩
  have hXe : X = (a + b) / 2 := hX.trans (halfSum_eq a b)
  have hDe : D = (a - b) / 2 := hD.trans (halfDiff_eq a b)
  unfold i64R at ha hb
  have i1 : wrap64 (a / 2 + b / 2) = P := by unfold wrap64; omega
  have i2 : bits .and .i64 (bits .and .i64 a b) 1 = t := by rw [and_and_one, ht]
  have i3 : wrap64 (P + t) = X := by rw [hX, halfSum, ← ht, ← hP]; unfold wrap64; split at ht <;> omega
  have j1 : wrap64 (a / 2 - b / 2) = a / 2 - b / 2 := by unfold wrap64; omega
  have j2 : bits .and .i64 a 1 = a % 2 := and_one a
  have j3 : bits .and .i64 b 1 = b % 2 := and_one b
  have j4 : wrap64 (a / 2 - b / 2 - 1) = a / 2 - b / 2 - 1 := by unfold wrap64; omega
  have HDD := Lib.hid hD
  have HX := Lib.hid hXe
  have HD := Lib.hid hDe
  have HA := Lib.hid ha
  have HB := Lib.hid hb
  have HT1 := Lib.hid T1
  have HT2 := Lib.hid T2
  have HT3 := Lib.hid T3
  clear hX hD hP ht hXe hDe T1 T2 T3 ha hb
  go_enter Try.func6, Try.ntmps6
  go_upto_region 8 with (first
    | ((with_reducible refine (HN.out w).mono ?_); rintro e u1 ⟨A3, n3, cap3, rfl, hV, hE⟩; have S : NuS w A3 n3 cap3 a b u1 := ⟨hV, hE⟩; clear hV)
    | ((with_reducible refine (HU.out _).mono ?_); rintro e u ⟨rfl, hC, hE⟩; replace S := S.ev hE; (try replace l1 := l1.ev hE); (try replace l2 := l2.ev hE); (try replace l3 := l3.ev hE); (try replace B1 := B1.ev hE); (try replace B2 := B2.ev hE))
    | ((with_reducible refine (HF.out _ _ hC _ _ _ S.v).mono ?_); rintro e u ⟨rfl, hE⟩; replace S := S.ev hE)
    | ((with_reducible refine (HO1.out _).mono ?_); rintro e v1 ⟨x1, rfl, t1, l1, hE⟩; replace S := S.ev hE)
    | ((with_reducible refine (HE1.out x1 _ _ _ _ _ _ _ _ t1 l1 hC S.v).mono ?_); rintro e v1_ ⟨rfl, hE⟩; replace S := S.ev (hE.trans (Ev.alloc v1_ (.cells #[.int .i64 k1, .int .i64 m1, .string ⟨#[]⟩] 25))); have B1 := Boxed.new k1 m1 ⟨#[]⟩ v1_)
    | ((with_reducible refine (HO2.out _).mono ?_); rintro e v2 ⟨x2, rfl, t2, l2, hE⟩; replace S := S.ev hE; replace B1 := B1.ev hE)
    | ((with_reducible refine (HE2.out x2 _ _ _ _ _ _ _ _ t2 l2 hC S.v).mono ?_); rintro e v2_ ⟨rfl, hE⟩; replace S := S.ev (hE.trans (Ev.alloc v2_ (.cells #[.int .i64 k2, .int .i64 m2, .string ⟨#[]⟩] 25))); replace B1 := B1.ev (hE.trans (Ev.alloc v2_ (.cells #[.int .i64 k2, .int .i64 m2, .string ⟨#[]⟩] 25))); have B2 := Boxed.new k2 m2 ⟨#[]⟩ v2_)
    | ((with_reducible refine (HO3.out _).mono ?_); rintro e v3 ⟨x3, rfl, t3, l3, hE⟩; replace S := S.ev hE; replace B1 := B1.ev hE; replace B2 := B2.ev hE)
    | ((with_reducible refine (HE3.out x3 _ _ _ _ _ _ _ _ t3 l3 hC S.v).mono ?_); rintro e v3_ ⟨rfl, hE⟩; replace S := S.ev (hE.trans (Ev.alloc v3_ (.cells #[.int .i64 k3, .int .i64 m3, .string ⟨#[]⟩] 25))); replace B1 := B1.ev (hE.trans (Ev.alloc v3_ (.cells #[.int .i64 k3, .int .i64 m3, .string ⟨#[]⟩] 25))); replace B2 := B2.ev (hE.trans (Ev.alloc v3_ (.cells #[.int .i64 k3, .int .i64 m3, .string ⟨#[]⟩] 25))); have B3 := Boxed.new k3 m3 ⟨#[]⟩ v3_))
  have e1 := B1.c1
  have e2 := B2.c1
  have e3 := B3.c1
  generalize v1_.heap.size = p1 at *
  generalize v2_.heap.size = p2 at *
  generalize hwz : v3_.alloc (.cells #[.int .i64 k3, .int .i64 m3, .string ⟨#[]⟩] 25) = wz at *
  generalize v3_.heap.size = p3 at *
  clear hwz B1 B2 B3
  obtain ⟨F1, hF1⟩ : ∃ F1, F1 = (decide (-4611686018427387904 ≤ X) && decide (X < 4611686018427387904)) := ⟨_, rfl⟩
  obtain ⟨F2, hF2⟩ : ∃ F2, F2 = (decide (-4611686018427387904 ≤ D) && decide (D < 4611686018427387904)) := ⟨_, rfl⟩
  obtain ⟨PB, hPB⟩ : ∃ PB, PB = (decide (a % 2 = 0) && decide (b % 2 = 1)) := ⟨_, rfl⟩
  have HF1 := Lib.hid hF1
  have HF2 := Lib.hid hF2
  have HPB := Lib.hid hPB
  clear hF1 hF2 hPB
  go_cut [12, 13] (fun x v wx => x = .int .i64 X ∧ v = .bool F1 ∧ wz = wx)
  case first =>
    by_cases h1 : -4611686018427387904 ≤ X
    · go_wp2_with fail
      go_meet
      exact ⟨by first | rfl | rw [i3], by rw [HF1.out, decide_eq_true h1]; rfl, rfl⟩
    · have h1' : decide (-4611686018427387904 ≤ X) = false := decide_eq_false h1
      go_wp2_with fail
      go_meet
      exact ⟨by first | rfl | rw [i3], by rw [HF1.out, h1']; rfl, rfl⟩
  case rest =>
  obtain ⟨rfl, rfl, rfl⟩ := hcut
  go_upto_region 10 with fail
  go_cut [14, 75] (fun d v wx => d = .int .i64 (a / 2 - b / 2) ∧ v = .bool PB ∧ wz = wx)
  case first =>
    by_cases h1 : a % 2 = 0
    · go_wp2_with fail
      go_meet
      exact ⟨by first | rfl | rw [j1], by rw [HPB.out, decide_eq_true h1]; rfl, rfl⟩
    · have h1' : decide (a % 2 = 0) = false := decide_eq_false h1
      go_wp2_with fail
      go_meet
      exact ⟨by first | rfl | rw [j1], by rw [HPB.out, h1']; rfl, rfl⟩
  case rest =>
  obtain ⟨rfl, rfl, rfl⟩ := hcut
  go_upto_if 75 with fail
  go_cut [14] (fun v wx => v = .int .i64 D ∧ wz = wx)
  case first =>
    cases hp : PB
    · have HP2 : Hid (a / 2 - b / 2 = D) := Lib.hid (by
        have h2 := HPB.out
        rw [hp] at h2
        rw [HDD.out, halfDiff, if_neg]
        intro h3
        rw [decide_eq_true h3.1, decide_eq_true h3.2] at h2
        cases h2)
      clear HPB
      subst hp
      go_wp2_with fail
      go_meet
      exact ⟨by rw [HP2.out], rfl⟩
    · have HP2 : Hid (a / 2 - b / 2 - 1 = D) := Lib.hid (by
        have h2 := HPB.out
        rw [hp] at h2
        have h3 := h2.symm
        simp only [Bool.and_eq_true, decide_eq_true_eq] at h3
        rw [HDD.out, halfDiff, if_pos h3])
      clear HPB
      subst hp
      go_wp2_with fail
      go_meet
      exact ⟨by first | rw [j4, HP2.out] | rw [HP2.out], rfl⟩
  case rest =>
  obtain ⟨rfl, rfl⟩ := hcut
  go_upto_region 12 with fail
  go_cut [15] (fun v wx => v = .bool F2 ∧ wz = wx)
  case first =>
    by_cases h1 : -4611686018427387904 ≤ D
    · go_wp2_with fail
      go_meet
      exact ⟨by rw [HF2.out, decide_eq_true h1]; rfl, rfl⟩
    · have h1' : decide (-4611686018427387904 ≤ D) = false := decide_eq_false h1
      go_wp2_with fail
      go_meet
      exact ⟨by rw [HF2.out, h1']; rfl, rfl⟩
  case rest =>
  obtain ⟨rfl, rfl⟩ := hcut
  clear i1 i2 i3 j1 j2 j3 j4
  have HG1 : Hid (F1 = true ∧ m1 = a + b ∧ y1 = 0 ∧ wrap64 (a + b) = a + b ∨ F1 = false ∧ y1 = 26) := Lib.hid (by
    rcases HT1.out with ⟨h, h1, h2, _⟩ | ⟨h, h1, h2, _⟩
    · exact .inl ⟨by rw [HF1.out, HX.out, decide_eq_true (by omega), decide_eq_true (by omega)]; rfl, h1, h2, by unfold wrap64; omega⟩
    · refine .inr ⟨?_, h2⟩
      rw [HF1.out, HX.out, ← Bool.decide_and]
      exact decide_eq_false (by omega))
  have HG2 : Hid (F2 = true ∧ m2 = a - b ∧ y2 = 0 ∧ wrap64 (a - b) = a - b ∨ F2 = false ∧ y2 = 26) := Lib.hid (by
    rcases HT2.out with ⟨h, h1, h2, _⟩ | ⟨h, h1, h2, _⟩
    · exact .inl ⟨by rw [HF2.out, HD.out, decide_eq_true (by omega), decide_eq_true (by omega)]; rfl, h1, h2, by unfold wrap64; omega⟩
    · refine .inr ⟨?_, h2⟩
      rw [HF2.out, HD.out, ← Bool.decide_and]
      exact decide_eq_false (by omega))
  clear HF1 HF2
  go_upto_region 13 with fail
  go_cut [115] (fun v wx => v = .bool false ∧ wz = wx)
  case first =>
    rcases HG1.out with ⟨rfl, rfl, rfl, q1⟩ | ⟨rfl, rfl⟩ <;> rcases HG2.out with ⟨rfl, rfl, rfl, q2⟩ | ⟨rfl, rfl⟩
    all_goals (
      go_wp2_with fail
      go_meet
      exact ⟨rfl, rfl⟩)
  case rest =>
  obtain ⟨rfl, rfl⟩ := hcut
  obtain ⟨MO, hMO⟩ : ∃ MO : Nat, MO = if (decide (a < 0) != decide (b < 0)) = true then 9223372036854775808 else 9223372036854775807 := ⟨_, rfl⟩
  have HMO := Lib.hid hMO
  clear hMO
  obtain ⟨QS, hQS⟩ : ∃ QS, QS = (decide (a < 0) != decide (b < 0)) := ⟨_, rfl⟩
  have HQS := Lib.hid hQS
  clear hQS
  go_upto_region 16 with fail
  go_cut [120] (fun v wx => v = .bool QS ∧ wz = wx)
  case first =>
    by_cases h1 : a < 0 <;> by_cases h2 : b < 0
    · go_wp2_with fail
      go_meet
      exact ⟨by rw [HQS.out, decide_eq_true h1, decide_eq_true h2]; rfl, rfl⟩
    · have h2' : decide (b < 0) = false := decide_eq_false h2
      go_wp2_with fail
      go_meet
      exact ⟨by rw [HQS.out, decide_eq_true h1, h2']; rfl, rfl⟩
    · have h1' : decide (a < 0) = false := decide_eq_false h1
      go_wp2_with fail
      go_meet
      exact ⟨by rw [HQS.out, h1', decide_eq_true h2]; rfl, rfl⟩
    · have h1' : decide (a < 0) = false := decide_eq_false h1
      have h2' : decide (b < 0) = false := decide_eq_false h2
      go_wp2_with fail
      go_meet
      exact ⟨by rw [HQS.out, h1', h2']; rfl, rfl⟩
  case rest =>
  obtain ⟨rfl, rfl⟩ := hcut
  go_upto_if 120 with fail
  go_cut [16] (fun v wx => v = .int .u64 (MO : Int) ∧ wz = wx)
  case first =>
    have HM2 := HMO.out
    rw [← HQS.out] at HM2
    have HM2 := Lib.hid HM2
    cases QS
    · go_wp2_with fail
      go_meet
      exact ⟨by rw [HM2.out]; rfl, rfl⟩
    · go_wp2_with fail
      go_meet
      exact ⟨by rw [HM2.out]; rfl, rfl⟩
  case rest =>
  obtain ⟨rfl, rfl⟩ := hcut
  obtain ⟨SM, hSM⟩ : ∃ SM, SM = (decide (a = 0) || (decide (b = 0) || decide (a.natAbs ≤ MO / b.natAbs))) := ⟨_, rfl⟩
  have HSM := Lib.hid hSM
  clear hSM
  go_upto_region 18 with fail
  go_cut [17] (fun v wx => v = .bool SM ∧ wz = wx)
  case first =>
    by_cases h1 : a = 0
    · have h1' : (a == 0) = true := beq_iff_eq.2 h1
      go_wp2_with fail
      go_meet
      exact ⟨by rw [HSM.out, decide_eq_true h1]; rfl, rfl⟩
    · have h1' : (a == 0) = false := beq_eq_false_iff_ne.2 h1
      by_cases h2 : b = 0
      · have h2' : (b == 0) = true := beq_iff_eq.2 h2
        go_wp2_with fail
        go_meet
        exact ⟨by rw [HSM.out, decide_eq_false h1, decide_eq_true h2]; rfl, rfl⟩
      · have h2' : (b == 0) = false := beq_eq_false_iff_ne.2 h2
        have hb0 : ¬ ((b.natAbs : Int) = 0) := by omega
        have hml : (0 : Int) ≤ (MO : Int) := by omega
        have hmu : MO ≤ 9223372036854775808 := by have := HMO.out; split at this <;> omega
        have hdv : MO / b.natAbs ≤ MO := Nat.div_le_self _ _
        have hw : IntKind.u64.wrap ((MO : Int) / (b.natAbs : Int)) = (MO : Int) / (b.natAbs : Int) := by
          rw [IntKind.wrap_u64, ← Int.natCast_ediv]
          exact Int.emod_eq_of_lt (Int.natCast_nonneg _) (Int.ofNat_lt.2 (Nat.lt_of_le_of_lt hdv (Nat.lt_of_le_of_lt hmu (by decide))))
        have HB0 : Hid (decide ((a.natAbs : Int) ≤ (MO : Int) / (b.natAbs : Int)) = decide (a.natAbs ≤ MO / b.natAbs)) := Lib.hid (by rw [← Int.natCast_ediv]; exact decide_eq_decide.2 Int.ofNat_le)
        clear hdv hmu
        go_wp2_with (first
          | ((with_reducible refine (HZa.out _).mono ?_); rintro e u ⟨rfl, rfl⟩)
          | ((with_reducible refine (HZb.out _).mono ?_); rintro e u ⟨rfl, rfl⟩))
        go_meet
        refine ⟨?_, rfl⟩
        rw [HSM.out, decide_eq_false h1, decide_eq_false h2, ← HB0.out, Bool.false_or, Bool.false_or]
  case rest =>
  obtain ⟨rfl, rfl⟩ := hcut
  have HG3 : Hid (SM = true ∧ m3 = a * b ∧ y3 = 0 ∧ wrap64 (a * b) = a * b ∨ SM = false ∧ y3 = 26) := Lib.hid (by
    have hpf : decide ((xFit (a * b)).2 = 0) = SM := by
      rw [HSM.out]
      by_cases h1 : a = 0
      · subst h1
        rw [Int.zero_mul]
        rfl
      · by_cases h2 : b = 0
        · subst h2
          rw [Int.mul_zero]
          simp [xFit]
        · rw [prod_fits a b h1 h2, decide_eq_false h1, decide_eq_false h2, HMO.out]
          rfl
    rcases HT3.out with ⟨h, h1, h2, _⟩ | ⟨h, h1, h2, _⟩
    · exact .inl ⟨by rw [← hpf]; exact decide_eq_true ((fit_iff _).2 h), h1, h2, by generalize a * b = c at *; unfold wrap64; omega⟩
    · exact .inr ⟨by rw [← hpf]; exact decide_eq_false (fun e => h ((fit_iff _).1 e)), h2⟩)
  clear HSM
  rcases HG3.out with ⟨rfl, rfl, rfl, q3⟩ | ⟨rfl, rfl⟩
  all_goals (
    go_wp2_with (first
      | ((with_reducible refine (HKn.out _).mono ?_); rintro e u ⟨rfl, hE⟩; replace S := S.ev hE))
    go_ret
    exact ⟨rfl, S.all⟩)

end Go.Proofs.Ytiiogjpgeginlaa

namespace Go.Proofs.Ytiiogjpgeginlaa
open Go.RowKit
set_option linter.unusedVariables false

theorem br_val {a b : Int} (e : T) {R : VRes} (h : xValue ucols ([a, b].map numV) e = R) {k n : Int} {s : ByteArray} {y : Int} (hR : R = ((k, n, s), y)) : xValue ucols ([a, b].map numV) e = ((k, n, s), y) := h.trans hR
theorem gen_ifa (a b : Int) : xValue ucols ([a, b].map numV) (.mk 4 bIf 0 [.mk 1 [97] 0 [] 0, .mk 1 [99] 0 [] 0, .mk 4 bAdd 0 [.mk 2 [] 9223372036854775807 [] 0, .mk 2 [] 1 [] 0] 0] 0) = if (a == 0) = true then (v0, 26) else (vNum b, 0) := by kernel_rfl
theorem gen_ifb (a b : Int) : xValue ucols ([a, b].map numV) (.mk 4 bIf 0 [.mk 1 [97] 0 [] 0, .mk 4 bAdd 0 [.mk 2 [] 9223372036854775807 [] 0, .mk 2 [] 1 [] 0] 0, .mk 1 [99] 0 [] 0] 0) = if (a == 0) = true then (vNum b, 0) else (v0, 26) := by kernel_rfl
theorem gen_and (a b : Int) : xValue ucols ([a, b].map numV) (.mk 4 bAnd 0 [.mk 1 [97] 0 [] 0, .mk 1 [99] 0 [] 0] 0) = xTruth (!(a == 0) && !(b == 0)) := by kernel_rfl
theorem gen_or (a b : Int) : xValue ucols ([a, b].map numV) (.mk 4 bOr 0 [.mk 1 [97] 0 [] 0, .mk 1 [99] 0 [] 0] 0) = xTruth (!(a == 0) || !(b == 0)) := by kernel_rfl
theorem gen_not (a b : Int) : xValue ucols ([a, b].map numV) (.mk 4 bNot 0 [.mk 1 [97] 0 [] 0] 0) = xTruth (a == 0) := by kernel_rfl
theorem gen_eq (a b : Int) : xValue ucols ([a, b].map numV) (.mk 4 bEq 0 [.mk 1 [97] 0 [] 0, .mk 1 [99] 0 [] 0] 0) = xTruth (!decide (a < b) && !decide (b < a)) := by kernel_rfl
theorem gen_lt (a b : Int) : xValue ucols ([a, b].map numV) (.mk 4 bLt 0 [.mk 1 [97] 0 [] 0, .mk 1 [99] 0 [] 0] 0) = xTruth (decide (a < b)) := by kernel_rfl
theorem val_ifa (a b : Int) (h : ¬ a = 0) : xValue ucols ([a, b].map numV) (.mk 4 bIf 0 [.mk 1 [97] 0 [] 0, .mk 1 [99] 0 [] 0, .mk 4 bAdd 0 [.mk 2 [] 9223372036854775807 [] 0, .mk 2 [] 1 [] 0] 0] 0) = ((1, b, ⟨#[]⟩), 0) := (gen_ifa a b).trans (by rw [if_neg (by simpa using h)]; rfl)
theorem val_ifa_0 (a b : Int) (h : a = 0) : xValue ucols ([a, b].map numV) (.mk 4 bIf 0 [.mk 1 [97] 0 [] 0, .mk 1 [99] 0 [] 0, .mk 4 bAdd 0 [.mk 2 [] 9223372036854775807 [] 0, .mk 2 [] 1 [] 0] 0] 0) = ((0, 0, ⟨#[]⟩), 26) := (gen_ifa a b).trans (by rw [if_pos (by simpa using h)]; rfl)
theorem val_ifb (a b : Int) (h : ¬ a = 0) : xValue ucols ([a, b].map numV) (.mk 4 bIf 0 [.mk 1 [97] 0 [] 0, .mk 4 bAdd 0 [.mk 2 [] 9223372036854775807 [] 0, .mk 2 [] 1 [] 0] 0, .mk 1 [99] 0 [] 0] 0) = ((0, 0, ⟨#[]⟩), 26) := (gen_ifb a b).trans (by rw [if_neg (by simpa using h)]; rfl)
theorem val_ifb_0 (a b : Int) (h : a = 0) : xValue ucols ([a, b].map numV) (.mk 4 bIf 0 [.mk 1 [97] 0 [] 0, .mk 4 bAdd 0 [.mk 2 [] 9223372036854775807 [] 0, .mk 2 [] 1 [] 0] 0, .mk 1 [99] 0 [] 0] 0) = ((1, b, ⟨#[]⟩), 0) := (gen_ifb a b).trans (by rw [if_pos (by simpa using h)]; rfl)
theorem nb_of {b nb : Int} (h : nb = if b = 0 then 0 else 1) : (if (!(b == 0)) = true then (1 : Int) else 0) = nb := by
  rw [h]
  by_cases hb : b = 0 <;> simp [hb]
theorem val_and (a b nb : Int) (h : ¬ a = 0) (hn : nb = if b = 0 then 0 else 1) : xValue ucols ([a, b].map numV) (.mk 4 bAnd 0 [.mk 1 [97] 0 [] 0, .mk 1 [99] 0 [] 0] 0) = ((1, nb, ⟨#[]⟩), 0) := (gen_and a b).trans (by
  rw [beq_eq_false_iff_ne.2 h, ← nb_of hn]; rfl)
theorem val_and_0 (a b : Int) (h : a = 0) : xValue ucols ([a, b].map numV) (.mk 4 bAnd 0 [.mk 1 [97] 0 [] 0, .mk 1 [99] 0 [] 0] 0) = ((1, 0, ⟨#[]⟩), 0) := (gen_and a b).trans (by rw [beq_iff_eq.2 h]; rfl)
theorem val_or (a b nb : Int) (h : ¬ a = 0) (_ : nb = if b = 0 then 0 else 1) : xValue ucols ([a, b].map numV) (.mk 4 bOr 0 [.mk 1 [97] 0 [] 0, .mk 1 [99] 0 [] 0] 0) = ((1, 1, ⟨#[]⟩), 0) := (gen_or a b).trans (by rw [beq_eq_false_iff_ne.2 h]; rfl)
theorem val_or_0 (a b nb : Int) (h : a = 0) (hn : nb = if b = 0 then 0 else 1) : xValue ucols ([a, b].map numV) (.mk 4 bOr 0 [.mk 1 [97] 0 [] 0, .mk 1 [99] 0 [] 0] 0) = ((1, nb, ⟨#[]⟩), 0) := (gen_or a b).trans (by
  rw [beq_iff_eq.2 h, ← nb_of hn]; rfl)
theorem val_not (a b : Int) (h : ¬ a = 0) : xValue ucols ([a, b].map numV) (.mk 4 bNot 0 [.mk 1 [97] 0 [] 0] 0) = ((1, 0, ⟨#[]⟩), 0) := (gen_not a b).trans (by rw [beq_eq_false_iff_ne.2 h]; rfl)
theorem val_not_0 (a b : Int) (h : a = 0) : xValue ucols ([a, b].map numV) (.mk 4 bNot 0 [.mk 1 [97] 0 [] 0] 0) = ((1, 1, ⟨#[]⟩), 0) := (gen_not a b).trans (by rw [beq_iff_eq.2 h]; rfl)
theorem val_eq (a b ne : Int) (hn : ne = if a = b then 1 else 0) : xValue ucols ([a, b].map numV) (.mk 4 bEq 0 [.mk 1 [97] 0 [] 0, .mk 1 [99] 0 [] 0] 0) = ((1, ne, ⟨#[]⟩), 0) := (gen_eq a b).trans (by
  have h : (!decide (a < b) && !decide (b < a)) = decide (a = b) := by
    by_cases h1 : a = b
    · subst h1; simp
    · rcases Int.lt_or_gt_of_ne h1 with h2 | h2
      · simp [h1, h2]
      · have h2' : b < a := h2
        simp [h1, h2']
  rw [h, hn]
  by_cases h1 : a = b
  · rw [decide_eq_true h1, if_pos h1]; rfl
  · rw [decide_eq_false h1, if_neg h1]; rfl)
theorem val_lt (a b nl : Int) (hn : nl = if a < b then 1 else 0) : xValue ucols ([a, b].map numV) (.mk 4 bLt 0 [.mk 1 [97] 0 [] 0, .mk 1 [99] 0 [] 0] 0) = ((1, nl, ⟨#[]⟩), 0) := (gen_lt a b).trans (by
  rw [hn]
  by_cases h1 : a < b
  · rw [decide_eq_true h1, if_pos h1]; rfl
  · rw [decide_eq_false h1, if_neg h1]; rfl)

set_option maxRecDepth 100000 in
set_option maxHeartbeats 16000000 in
theorem branches_walk (a b : Int) (w : World) (ha : i64R a) (hb : i64R b) :
    Calls Try.prog 7 #[.int .i64 a, .int .i64 b] w fun e w' => e = .returned (.bool true) ∧ Ev w w' := by
  have hmix : Try.prog.follows .mixedOrders = true := by kernel_rfl
  have HN : Hid (∀ w, Calls Try.prog 22 #[.slice (some ⟨w.heap.size, 0, none⟩) 2 2] (w.alloc (.cells #[.int .i64 a, .int .i64 b] 2)) fun e w' => ∃ A m cap, e = .returned (.slice A m cap) ∧ Vs w' A m cap ([a, b].map numV) ∧ Ev w w') := Lib.hid fun w1 => nums_lit [a, b] 2 rfl (by decide) w1 _ rfl
  have HU := Lib.hid keep_u
  have HKn := Lib.hid (fun w1 => known8_any w1)
  obtain ⟨nb, hnb0⟩ : ∃ nb : Int, nb = if b = 0 then 0 else 1 := ⟨_, rfl⟩
  obtain ⟨ne, hne0⟩ : ∃ ne : Int, ne = if a = b then 1 else 0 := ⟨_, rfl⟩
  obtain ⟨nl, hnl0⟩ : ∃ nl : Int, nl = if a < b then 1 else 0 := ⟨_, rfl⟩
  have HB1 := Lib.hid (show nb = 0 ∨ nb = 1 by rw [hnb0]; split <;> simp)
  have HB2 := Lib.hid (show ne = 0 ∨ ne = 1 by rw [hne0]; split <;> simp)
  have HB3 := Lib.hid (show nl = 0 ∨ nl = 1 by rw [hnl0]; split <;> simp)
  have hnb : (nb == 1) = (b != 0) := by rw [hnb0]; by_cases h : b = 0 <;> simp [h]
  have hne : (ne == 1) = (a == b) := by rw [hne0]; by_cases h : a = b <;> simp [h]
  have hnl : (nl == 1) = decide (a < b) := by rw [hnl0]; by_cases h : a < b <;> simp [h]
  have HO1 := Lib.hid (of_at ⟨#[40, 105, 102, 32, 97, 32, 99, 32, 40, 97, 100, 100, 32, 57, 50, 50, 51, 51, 55, 50, 48, 51, 54, 56, 53, 52, 55, 55, 53, 56, 48, 55, 32, 49, 41, 41]⟩ _ xOf_ifa xOk_ifa (by decide))
  have HO2 := Lib.hid (of_at ⟨#[40, 105, 102, 32, 97, 32, 40, 97, 100, 100, 32, 57, 50, 50, 51, 51, 55, 50, 48, 51, 54, 56, 53, 52, 55, 55, 53, 56, 48, 55, 32, 49, 41, 32, 99, 41]⟩ _ xOf_ifb xOk_ifb (by decide))
  have HO3 := Lib.hid (of_at ⟨#[40, 97, 110, 100, 32, 97, 32, 99, 41]⟩ _ xOf_and xOk_and (by decide))
  have HO4 := Lib.hid (of_at ⟨#[40, 111, 114, 32, 97, 32, 99, 41]⟩ _ xOf_or xOk_or (by decide))
  have HO5 := Lib.hid (of_at ⟨#[40, 110, 111, 116, 32, 97, 41]⟩ _ xOf_not xOk_not (by decide))
  have HO6 := Lib.hid (of_at ⟨#[40, 101, 113, 32, 97, 32, 99, 41]⟩ _ xOf_eq xOk_eq (by decide))
  have HO7 := Lib.hid (of_at ⟨#[40, 108, 116, 32, 97, 32, 99, 41]⟩ _ xOf_lt xOk_lt (by decide))
  have HNB := Lib.hid hnb
  have HNE := Lib.hid hne
  have HNL := Lib.hid hnl
  clear hnb hne hnl
  by_cases h0 : a = 0
  · have HE1 := Lib.hid (eval_at _ ucols ([a, b].map numV) 0 0 ⟨#[]⟩ 26 (val_ifa_0 a b h0) (by decide +kernel) (by decide +kernel) (fair_nums (l := [a, b]) (by simp [ha, hb])))
    have HE2 := Lib.hid (eval_at _ ucols ([a, b].map numV) 1 b ⟨#[]⟩ 0 (val_ifb_0 a b h0) (by decide +kernel) (by decide +kernel) (fair_nums (l := [a, b]) (by simp [ha, hb])))
    have HE3 := Lib.hid (eval_at _ ucols ([a, b].map numV) 1 0 ⟨#[]⟩ 0 (val_and_0 a b h0) (by decide +kernel) (by decide +kernel) (fair_nums (l := [a, b]) (by simp [ha, hb])))
    have HE4 := Lib.hid (eval_at _ ucols ([a, b].map numV) 1 nb ⟨#[]⟩ 0 (val_or_0 a b nb h0 hnb0) (by decide +kernel) (by decide +kernel) (fair_nums (l := [a, b]) (by simp [ha, hb])))
    have HE5 := Lib.hid (eval_at _ ucols ([a, b].map numV) 1 1 ⟨#[]⟩ 0 (val_not_0 a b h0) (by decide +kernel) (by decide +kernel) (fair_nums (l := [a, b]) (by simp [ha, hb])))
    have HE6 := Lib.hid (eval_at _ ucols ([a, b].map numV) 1 ne ⟨#[]⟩ 0 (val_eq a b ne hne0) (by decide +kernel) (by decide +kernel) (fair_nums (l := [a, b]) (by simp [ha, hb])))
    have HE7 := Lib.hid (eval_at _ ucols ([a, b].map numV) 1 nl ⟨#[]⟩ 0 (val_lt a b nl hnl0) (by decide +kernel) (by decide +kernel) (fair_nums (l := [a, b]) (by simp [ha, hb])))
    have h0b : (a == 0) = true := by simp [h0]
    have h0n : (a != 0) = false := by simp [h0]
    clear hnb0 hne0 hnl0 ha hb h0
    go_enter Try.func7, Try.ntmps7
    go_upto_if 106 with (first
      | ((with_reducible refine (HN.out w).mono ?_); rintro e u1 ⟨A3, n3, cap3, rfl, hV, hE⟩; have S : NuS w A3 n3 cap3 a b u1 := ⟨hV, hE⟩; clear hV)
      | ((with_reducible refine (HU.out _).mono ?_); rintro e u2 ⟨rfl, hC, hE⟩; replace S := S.ev hE)
      | ((with_reducible refine (HO1.out _).mono ?_); rintro e v1 ⟨x1, rfl, t1, l1, hE⟩; replace S := S.ev hE; replace hC := hC.ev hE)
      | ((with_reducible refine (HE1.out x1 _ _ _ _ _ _ _ _ t1 l1 hC S.v).mono ?_); rintro e v1_ ⟨rfl, hE⟩; replace S := S.ev (hE.trans (Ev.alloc v1_ (.cells #[.int .i64 0, .int .i64 0, .string ⟨#[]⟩] 25))); replace hC := hC.ev (hE.trans (Ev.alloc v1_ (.cells #[.int .i64 0, .int .i64 0, .string ⟨#[]⟩] 25))); have B1 := Boxed.new 0 0 ⟨#[]⟩ v1_)
      | ((with_reducible refine (HO2.out _).mono ?_); rintro e v2 ⟨x2, rfl, t2, l2, hE⟩; replace S := S.ev hE; replace hC := hC.ev hE; replace B1 := B1.ev hE)
      | ((with_reducible refine (HE2.out x2 _ _ _ _ _ _ _ _ t2 l2 hC S.v).mono ?_); rintro e v2_ ⟨rfl, hE⟩; replace S := S.ev (hE.trans (Ev.alloc v2_ (.cells #[.int .i64 1, .int .i64 b, .string ⟨#[]⟩] 25))); replace hC := hC.ev (hE.trans (Ev.alloc v2_ (.cells #[.int .i64 1, .int .i64 b, .string ⟨#[]⟩] 25))); replace B1 := B1.ev (hE.trans (Ev.alloc v2_ (.cells #[.int .i64 1, .int .i64 b, .string ⟨#[]⟩] 25))); have B2 := Boxed.new 1 b ⟨#[]⟩ v2_)
      | ((with_reducible refine (HO3.out _).mono ?_); rintro e v3 ⟨x3, rfl, t3, l3, hE⟩; replace S := S.ev hE; replace hC := hC.ev hE; replace B1 := B1.ev hE; replace B2 := B2.ev hE)
      | ((with_reducible refine (HE3.out x3 _ _ _ _ _ _ _ _ t3 l3 hC S.v).mono ?_); rintro e v3_ ⟨rfl, hE⟩; replace S := S.ev (hE.trans (Ev.alloc v3_ (.cells #[.int .i64 1, .int .i64 0, .string ⟨#[]⟩] 25))); replace hC := hC.ev (hE.trans (Ev.alloc v3_ (.cells #[.int .i64 1, .int .i64 0, .string ⟨#[]⟩] 25))); replace B1 := B1.ev (hE.trans (Ev.alloc v3_ (.cells #[.int .i64 1, .int .i64 0, .string ⟨#[]⟩] 25))); replace B2 := B2.ev (hE.trans (Ev.alloc v3_ (.cells #[.int .i64 1, .int .i64 0, .string ⟨#[]⟩] 25))); have B3 := Boxed.new 1 0 ⟨#[]⟩ v3_)
      | ((with_reducible refine (HO4.out _).mono ?_); rintro e v4 ⟨x4, rfl, t4, l4, hE⟩; replace S := S.ev hE; replace hC := hC.ev hE; replace B1 := B1.ev hE; replace B2 := B2.ev hE; replace B3 := B3.ev hE)
      | ((with_reducible refine (HE4.out x4 _ _ _ _ _ _ _ _ t4 l4 hC S.v).mono ?_); rintro e v4_ ⟨rfl, hE⟩; replace S := S.ev (hE.trans (Ev.alloc v4_ (.cells #[.int .i64 1, .int .i64 nb, .string ⟨#[]⟩] 25))); replace hC := hC.ev (hE.trans (Ev.alloc v4_ (.cells #[.int .i64 1, .int .i64 nb, .string ⟨#[]⟩] 25))); replace B1 := B1.ev (hE.trans (Ev.alloc v4_ (.cells #[.int .i64 1, .int .i64 nb, .string ⟨#[]⟩] 25))); replace B2 := B2.ev (hE.trans (Ev.alloc v4_ (.cells #[.int .i64 1, .int .i64 nb, .string ⟨#[]⟩] 25))); replace B3 := B3.ev (hE.trans (Ev.alloc v4_ (.cells #[.int .i64 1, .int .i64 nb, .string ⟨#[]⟩] 25))); have B4 := Boxed.new 1 nb ⟨#[]⟩ v4_)
      | ((with_reducible refine (HO5.out _).mono ?_); rintro e v5 ⟨x5, rfl, t5, l5, hE⟩; replace S := S.ev hE; replace hC := hC.ev hE; replace B1 := B1.ev hE; replace B2 := B2.ev hE; replace B3 := B3.ev hE; replace B4 := B4.ev hE)
      | ((with_reducible refine (HE5.out x5 _ _ _ _ _ _ _ _ t5 l5 hC S.v).mono ?_); rintro e v5_ ⟨rfl, hE⟩; replace S := S.ev (hE.trans (Ev.alloc v5_ (.cells #[.int .i64 1, .int .i64 1, .string ⟨#[]⟩] 25))); replace hC := hC.ev (hE.trans (Ev.alloc v5_ (.cells #[.int .i64 1, .int .i64 1, .string ⟨#[]⟩] 25))); replace B1 := B1.ev (hE.trans (Ev.alloc v5_ (.cells #[.int .i64 1, .int .i64 1, .string ⟨#[]⟩] 25))); replace B2 := B2.ev (hE.trans (Ev.alloc v5_ (.cells #[.int .i64 1, .int .i64 1, .string ⟨#[]⟩] 25))); replace B3 := B3.ev (hE.trans (Ev.alloc v5_ (.cells #[.int .i64 1, .int .i64 1, .string ⟨#[]⟩] 25))); replace B4 := B4.ev (hE.trans (Ev.alloc v5_ (.cells #[.int .i64 1, .int .i64 1, .string ⟨#[]⟩] 25))); have B5 := Boxed.new 1 1 ⟨#[]⟩ v5_)
      | ((with_reducible refine (HO6.out _).mono ?_); rintro e v6 ⟨x6, rfl, t6, l6, hE⟩; replace S := S.ev hE; replace hC := hC.ev hE; replace B1 := B1.ev hE; replace B2 := B2.ev hE; replace B3 := B3.ev hE; replace B4 := B4.ev hE; replace B5 := B5.ev hE)
      | ((with_reducible refine (HE6.out x6 _ _ _ _ _ _ _ _ t6 l6 hC S.v).mono ?_); rintro e v6_ ⟨rfl, hE⟩; replace S := S.ev (hE.trans (Ev.alloc v6_ (.cells #[.int .i64 1, .int .i64 ne, .string ⟨#[]⟩] 25))); replace hC := hC.ev (hE.trans (Ev.alloc v6_ (.cells #[.int .i64 1, .int .i64 ne, .string ⟨#[]⟩] 25))); replace B1 := B1.ev (hE.trans (Ev.alloc v6_ (.cells #[.int .i64 1, .int .i64 ne, .string ⟨#[]⟩] 25))); replace B2 := B2.ev (hE.trans (Ev.alloc v6_ (.cells #[.int .i64 1, .int .i64 ne, .string ⟨#[]⟩] 25))); replace B3 := B3.ev (hE.trans (Ev.alloc v6_ (.cells #[.int .i64 1, .int .i64 ne, .string ⟨#[]⟩] 25))); replace B4 := B4.ev (hE.trans (Ev.alloc v6_ (.cells #[.int .i64 1, .int .i64 ne, .string ⟨#[]⟩] 25))); replace B5 := B5.ev (hE.trans (Ev.alloc v6_ (.cells #[.int .i64 1, .int .i64 ne, .string ⟨#[]⟩] 25))); have B6 := Boxed.new 1 ne ⟨#[]⟩ v6_)
      | ((with_reducible refine (HO7.out _).mono ?_); rintro e v7 ⟨x7, rfl, t7, l7, hE⟩; replace S := S.ev hE; replace hC := hC.ev hE; replace B1 := B1.ev hE; replace B2 := B2.ev hE; replace B3 := B3.ev hE; replace B4 := B4.ev hE; replace B5 := B5.ev hE; replace B6 := B6.ev hE)
      | ((with_reducible refine (HE7.out x7 _ _ _ _ _ _ _ _ t7 l7 hC S.v).mono ?_); rintro e v7_ ⟨rfl, hE⟩; replace S := S.ev (hE.trans (Ev.alloc v7_ (.cells #[.int .i64 1, .int .i64 nl, .string ⟨#[]⟩] 25))); replace hC := hC.ev (hE.trans (Ev.alloc v7_ (.cells #[.int .i64 1, .int .i64 nl, .string ⟨#[]⟩] 25))); replace B1 := B1.ev (hE.trans (Ev.alloc v7_ (.cells #[.int .i64 1, .int .i64 nl, .string ⟨#[]⟩] 25))); replace B2 := B2.ev (hE.trans (Ev.alloc v7_ (.cells #[.int .i64 1, .int .i64 nl, .string ⟨#[]⟩] 25))); replace B3 := B3.ev (hE.trans (Ev.alloc v7_ (.cells #[.int .i64 1, .int .i64 nl, .string ⟨#[]⟩] 25))); replace B4 := B4.ev (hE.trans (Ev.alloc v7_ (.cells #[.int .i64 1, .int .i64 nl, .string ⟨#[]⟩] 25))); replace B5 := B5.ev (hE.trans (Ev.alloc v7_ (.cells #[.int .i64 1, .int .i64 nl, .string ⟨#[]⟩] 25))); replace B6 := B6.ev (hE.trans (Ev.alloc v7_ (.cells #[.int .i64 1, .int .i64 nl, .string ⟨#[]⟩] 25))); have B7 := Boxed.new 1 nl ⟨#[]⟩ v7_; have e1 := B1.c1; have e2 := B2.c1; have e3 := B3.c1; have e4 := B4.c1; have e5 := B5.c1; have e6 := B6.c1; have e7 := B7.c1))
    generalize v1_.heap.size = p1 at *
    generalize v2_.heap.size = p2 at *
    generalize v3_.heap.size = p3 at *
    generalize v4_.heap.size = p4 at *
    generalize v5_.heap.size = p5 at *
    generalize v6_.heap.size = p6 at *
    generalize v7_.heap.size = p7 at *
    have hnb := HNB.out
    have hne := HNE.out
    have hnl := HNL.out
    have hnb1 := HB1.out
    have hne1 := HB2.out
    have hnl1 := HB3.out
    have hor : bits .or .i64 (bits .or .i64 (bits .or .i64 (bits .or .i64 0 nb) 1) ne) nl < 2 := by
      rcases hnb1 with rfl | rfl <;> rcases hne1 with rfl | rfl <;> rcases hnl1 with rfl | rfl <;> decide +kernel
    clear hnb1 hne1 hnl1
    go_wp2_with (first
      | ((with_reducible refine (HKn.out _).mono ?_); rintro e u ⟨rfl, hE⟩; replace S := S.ev hE))
    go_ret
    exact ⟨rfl, S.all⟩
  · have HE1 := Lib.hid (eval_at _ ucols ([a, b].map numV) 1 b ⟨#[]⟩ 0 (val_ifa a b h0) (by decide +kernel) (by decide +kernel) (fair_nums (l := [a, b]) (by simp [ha, hb])))
    have HE2 := Lib.hid (eval_at _ ucols ([a, b].map numV) 0 0 ⟨#[]⟩ 26 (val_ifb a b h0) (by decide +kernel) (by decide +kernel) (fair_nums (l := [a, b]) (by simp [ha, hb])))
    have HE3 := Lib.hid (eval_at _ ucols ([a, b].map numV) 1 nb ⟨#[]⟩ 0 (val_and a b nb h0 hnb0) (by decide +kernel) (by decide +kernel) (fair_nums (l := [a, b]) (by simp [ha, hb])))
    have HE4 := Lib.hid (eval_at _ ucols ([a, b].map numV) 1 1 ⟨#[]⟩ 0 (val_or a b nb h0 hnb0) (by decide +kernel) (by decide +kernel) (fair_nums (l := [a, b]) (by simp [ha, hb])))
    have HE5 := Lib.hid (eval_at _ ucols ([a, b].map numV) 1 0 ⟨#[]⟩ 0 (val_not a b h0) (by decide +kernel) (by decide +kernel) (fair_nums (l := [a, b]) (by simp [ha, hb])))
    have HE6 := Lib.hid (eval_at _ ucols ([a, b].map numV) 1 ne ⟨#[]⟩ 0 (val_eq a b ne hne0) (by decide +kernel) (by decide +kernel) (fair_nums (l := [a, b]) (by simp [ha, hb])))
    have HE7 := Lib.hid (eval_at _ ucols ([a, b].map numV) 1 nl ⟨#[]⟩ 0 (val_lt a b nl hnl0) (by decide +kernel) (by decide +kernel) (fair_nums (l := [a, b]) (by simp [ha, hb])))
    have h0b : (a == 0) = false := by simp [h0]
    have h0n : (a != 0) = true := by simp [h0]
    clear hnb0 hne0 hnl0 ha hb
    go_enter Try.func7, Try.ntmps7
    go_upto_if 106 with (first
      | ((with_reducible refine (HN.out w).mono ?_); rintro e u1 ⟨A3, n3, cap3, rfl, hV, hE⟩; have S : NuS w A3 n3 cap3 a b u1 := ⟨hV, hE⟩; clear hV)
      | ((with_reducible refine (HU.out _).mono ?_); rintro e u2 ⟨rfl, hC, hE⟩; replace S := S.ev hE)
      | ((with_reducible refine (HO1.out _).mono ?_); rintro e v1 ⟨x1, rfl, t1, l1, hE⟩; replace S := S.ev hE; replace hC := hC.ev hE)
      | ((with_reducible refine (HE1.out x1 _ _ _ _ _ _ _ _ t1 l1 hC S.v).mono ?_); rintro e v1_ ⟨rfl, hE⟩; replace S := S.ev (hE.trans (Ev.alloc v1_ (.cells #[.int .i64 1, .int .i64 b, .string ⟨#[]⟩] 25))); replace hC := hC.ev (hE.trans (Ev.alloc v1_ (.cells #[.int .i64 1, .int .i64 b, .string ⟨#[]⟩] 25))); have B1 := Boxed.new 1 b ⟨#[]⟩ v1_)
      | ((with_reducible refine (HO2.out _).mono ?_); rintro e v2 ⟨x2, rfl, t2, l2, hE⟩; replace S := S.ev hE; replace hC := hC.ev hE; replace B1 := B1.ev hE)
      | ((with_reducible refine (HE2.out x2 _ _ _ _ _ _ _ _ t2 l2 hC S.v).mono ?_); rintro e v2_ ⟨rfl, hE⟩; replace S := S.ev (hE.trans (Ev.alloc v2_ (.cells #[.int .i64 0, .int .i64 0, .string ⟨#[]⟩] 25))); replace hC := hC.ev (hE.trans (Ev.alloc v2_ (.cells #[.int .i64 0, .int .i64 0, .string ⟨#[]⟩] 25))); replace B1 := B1.ev (hE.trans (Ev.alloc v2_ (.cells #[.int .i64 0, .int .i64 0, .string ⟨#[]⟩] 25))); have B2 := Boxed.new 0 0 ⟨#[]⟩ v2_)
      | ((with_reducible refine (HO3.out _).mono ?_); rintro e v3 ⟨x3, rfl, t3, l3, hE⟩; replace S := S.ev hE; replace hC := hC.ev hE; replace B1 := B1.ev hE; replace B2 := B2.ev hE)
      | ((with_reducible refine (HE3.out x3 _ _ _ _ _ _ _ _ t3 l3 hC S.v).mono ?_); rintro e v3_ ⟨rfl, hE⟩; replace S := S.ev (hE.trans (Ev.alloc v3_ (.cells #[.int .i64 1, .int .i64 nb, .string ⟨#[]⟩] 25))); replace hC := hC.ev (hE.trans (Ev.alloc v3_ (.cells #[.int .i64 1, .int .i64 nb, .string ⟨#[]⟩] 25))); replace B1 := B1.ev (hE.trans (Ev.alloc v3_ (.cells #[.int .i64 1, .int .i64 nb, .string ⟨#[]⟩] 25))); replace B2 := B2.ev (hE.trans (Ev.alloc v3_ (.cells #[.int .i64 1, .int .i64 nb, .string ⟨#[]⟩] 25))); have B3 := Boxed.new 1 nb ⟨#[]⟩ v3_)
      | ((with_reducible refine (HO4.out _).mono ?_); rintro e v4 ⟨x4, rfl, t4, l4, hE⟩; replace S := S.ev hE; replace hC := hC.ev hE; replace B1 := B1.ev hE; replace B2 := B2.ev hE; replace B3 := B3.ev hE)
      | ((with_reducible refine (HE4.out x4 _ _ _ _ _ _ _ _ t4 l4 hC S.v).mono ?_); rintro e v4_ ⟨rfl, hE⟩; replace S := S.ev (hE.trans (Ev.alloc v4_ (.cells #[.int .i64 1, .int .i64 1, .string ⟨#[]⟩] 25))); replace hC := hC.ev (hE.trans (Ev.alloc v4_ (.cells #[.int .i64 1, .int .i64 1, .string ⟨#[]⟩] 25))); replace B1 := B1.ev (hE.trans (Ev.alloc v4_ (.cells #[.int .i64 1, .int .i64 1, .string ⟨#[]⟩] 25))); replace B2 := B2.ev (hE.trans (Ev.alloc v4_ (.cells #[.int .i64 1, .int .i64 1, .string ⟨#[]⟩] 25))); replace B3 := B3.ev (hE.trans (Ev.alloc v4_ (.cells #[.int .i64 1, .int .i64 1, .string ⟨#[]⟩] 25))); have B4 := Boxed.new 1 1 ⟨#[]⟩ v4_)
      | ((with_reducible refine (HO5.out _).mono ?_); rintro e v5 ⟨x5, rfl, t5, l5, hE⟩; replace S := S.ev hE; replace hC := hC.ev hE; replace B1 := B1.ev hE; replace B2 := B2.ev hE; replace B3 := B3.ev hE; replace B4 := B4.ev hE)
      | ((with_reducible refine (HE5.out x5 _ _ _ _ _ _ _ _ t5 l5 hC S.v).mono ?_); rintro e v5_ ⟨rfl, hE⟩; replace S := S.ev (hE.trans (Ev.alloc v5_ (.cells #[.int .i64 1, .int .i64 0, .string ⟨#[]⟩] 25))); replace hC := hC.ev (hE.trans (Ev.alloc v5_ (.cells #[.int .i64 1, .int .i64 0, .string ⟨#[]⟩] 25))); replace B1 := B1.ev (hE.trans (Ev.alloc v5_ (.cells #[.int .i64 1, .int .i64 0, .string ⟨#[]⟩] 25))); replace B2 := B2.ev (hE.trans (Ev.alloc v5_ (.cells #[.int .i64 1, .int .i64 0, .string ⟨#[]⟩] 25))); replace B3 := B3.ev (hE.trans (Ev.alloc v5_ (.cells #[.int .i64 1, .int .i64 0, .string ⟨#[]⟩] 25))); replace B4 := B4.ev (hE.trans (Ev.alloc v5_ (.cells #[.int .i64 1, .int .i64 0, .string ⟨#[]⟩] 25))); have B5 := Boxed.new 1 0 ⟨#[]⟩ v5_)
      | ((with_reducible refine (HO6.out _).mono ?_); rintro e v6 ⟨x6, rfl, t6, l6, hE⟩; replace S := S.ev hE; replace hC := hC.ev hE; replace B1 := B1.ev hE; replace B2 := B2.ev hE; replace B3 := B3.ev hE; replace B4 := B4.ev hE; replace B5 := B5.ev hE)
      | ((with_reducible refine (HE6.out x6 _ _ _ _ _ _ _ _ t6 l6 hC S.v).mono ?_); rintro e v6_ ⟨rfl, hE⟩; replace S := S.ev (hE.trans (Ev.alloc v6_ (.cells #[.int .i64 1, .int .i64 ne, .string ⟨#[]⟩] 25))); replace hC := hC.ev (hE.trans (Ev.alloc v6_ (.cells #[.int .i64 1, .int .i64 ne, .string ⟨#[]⟩] 25))); replace B1 := B1.ev (hE.trans (Ev.alloc v6_ (.cells #[.int .i64 1, .int .i64 ne, .string ⟨#[]⟩] 25))); replace B2 := B2.ev (hE.trans (Ev.alloc v6_ (.cells #[.int .i64 1, .int .i64 ne, .string ⟨#[]⟩] 25))); replace B3 := B3.ev (hE.trans (Ev.alloc v6_ (.cells #[.int .i64 1, .int .i64 ne, .string ⟨#[]⟩] 25))); replace B4 := B4.ev (hE.trans (Ev.alloc v6_ (.cells #[.int .i64 1, .int .i64 ne, .string ⟨#[]⟩] 25))); replace B5 := B5.ev (hE.trans (Ev.alloc v6_ (.cells #[.int .i64 1, .int .i64 ne, .string ⟨#[]⟩] 25))); have B6 := Boxed.new 1 ne ⟨#[]⟩ v6_)
      | ((with_reducible refine (HO7.out _).mono ?_); rintro e v7 ⟨x7, rfl, t7, l7, hE⟩; replace S := S.ev hE; replace hC := hC.ev hE; replace B1 := B1.ev hE; replace B2 := B2.ev hE; replace B3 := B3.ev hE; replace B4 := B4.ev hE; replace B5 := B5.ev hE; replace B6 := B6.ev hE)
      | ((with_reducible refine (HE7.out x7 _ _ _ _ _ _ _ _ t7 l7 hC S.v).mono ?_); rintro e v7_ ⟨rfl, hE⟩; replace S := S.ev (hE.trans (Ev.alloc v7_ (.cells #[.int .i64 1, .int .i64 nl, .string ⟨#[]⟩] 25))); replace hC := hC.ev (hE.trans (Ev.alloc v7_ (.cells #[.int .i64 1, .int .i64 nl, .string ⟨#[]⟩] 25))); replace B1 := B1.ev (hE.trans (Ev.alloc v7_ (.cells #[.int .i64 1, .int .i64 nl, .string ⟨#[]⟩] 25))); replace B2 := B2.ev (hE.trans (Ev.alloc v7_ (.cells #[.int .i64 1, .int .i64 nl, .string ⟨#[]⟩] 25))); replace B3 := B3.ev (hE.trans (Ev.alloc v7_ (.cells #[.int .i64 1, .int .i64 nl, .string ⟨#[]⟩] 25))); replace B4 := B4.ev (hE.trans (Ev.alloc v7_ (.cells #[.int .i64 1, .int .i64 nl, .string ⟨#[]⟩] 25))); replace B5 := B5.ev (hE.trans (Ev.alloc v7_ (.cells #[.int .i64 1, .int .i64 nl, .string ⟨#[]⟩] 25))); replace B6 := B6.ev (hE.trans (Ev.alloc v7_ (.cells #[.int .i64 1, .int .i64 nl, .string ⟨#[]⟩] 25))); have B7 := Boxed.new 1 nl ⟨#[]⟩ v7_; have e1 := B1.c1; have e2 := B2.c1; have e3 := B3.c1; have e4 := B4.c1; have e5 := B5.c1; have e6 := B6.c1; have e7 := B7.c1))
    generalize v1_.heap.size = p1 at *
    generalize v2_.heap.size = p2 at *
    generalize v3_.heap.size = p3 at *
    generalize v4_.heap.size = p4 at *
    generalize v5_.heap.size = p5 at *
    generalize v6_.heap.size = p6 at *
    generalize v7_.heap.size = p7 at *
    have hnb := HNB.out
    have hne := HNE.out
    have hnl := HNL.out
    have hnb1 := HB1.out
    have hne1 := HB2.out
    have hnl1 := HB3.out
    have hor : bits .or .i64 (bits .or .i64 (bits .or .i64 (bits .or .i64 nb 1) 0) ne) nl < 2 := by
      rcases hnb1 with rfl | rfl <;> rcases hne1 with rfl | rfl <;> rcases hnl1 with rfl | rfl <;> decide +kernel
    clear hnb1 hne1 hnl1
    go_wp2_with (first
      | ((with_reducible refine (HKn.out _).mono ?_); rintro e u ⟨rfl, hE⟩; replace S := S.ev hE))
    go_ret
    exact ⟨rfl, S.all⟩
end Go.Proofs.Ytiiogjpgeginlaa
