/-
  Texts that belong together: The contracts of package tally, for tallies whose parts are whole numbers from 0 to 2^50. The contracts of package tally once more, the parts as integers; and of the statements' known and small.
-/
import Derived.Test.YthpiobkghfdkkaaGreatChecked
import Derived.WalkKit
import Derived.WalkLawsBesides
import Derived.Lib.Hide
import Derived.IntWalk
import Derived.Test.YthpiobkghfdkkaaGreatZ0O
import Derived.Test.YthpiobkghfdkkaaGreatZ1O
namespace Go.Proofs.YthpiobkghfdkkaaGreat
open Go.RowKit
set_option linter.unusedVariables false

theorem of_any (a b : Int) (w : World) : Calls Tryz.prog 132 #[.int .i64 a, .int .i64 b] w fun e w' => e = .returned (.complex .f64 (fl a) (fl b)) ∧ w = w' := by
  go_enter Tryz.func132, Tryz.ntmps132
  go_wp2
  go_ret
  exact ⟨rfl, rfl⟩

/-- A function without a body, by its entry. -/
theorem run_entry {P : Program} {f : FuncId} {fn : Func} {args : Array Value} {w : World} {e : Array Value → Sem Value} {v : Value} (hf : P.funcs[f]? = some fn) (hn : (fn.name == "runtime.NumGoroutine") = false) (hb : fn.body.isNone = true) (hx : Extern.findNext fn = none) (he : Extern.find fn = some e) (hv : (e args).run P w = .ok v w) :
    (callFunc f args).run P w = .ok (.value v) w := by
  have h1 : ¬ fn.name = "runtime.NumGoroutine" := by simpa using hn
  have h2 : fn.body = none := by simpa using hb
  simp [callFunc, hf, h1, h2, hx, he, hv]
theorem run_integral {P : Program} (s : String) (n : Nat) (h : n < 9007199254740992) (w : World) : (Extern.MathFloor.toIntegral s .zero #[.float .f64 (fl n)]).run P w = .ok (.float .f64 (fl n)) w := by
  have hi := integral_fl n h
  obtain ⟨m, p, e, _⟩ := decode_all n h
  rw [e] at hi
  have hE := encode_fl n
  generalize hx : fl n = x at e hE ⊢
  generalize hy : FloatKind.f64.encode (.number false n 0) = y at hE
  clear hx
  conv => lhs; arg 2; whnf
  rw [e]
  change Sem.run P (pure (Value.float FloatKind.f64 (FloatKind.f64.encode (Ieee.Datum.integral Ieee.Toward.zero (.number false m (-(p : Int))))))) w = _
  rw [hi, hy, hE]
  rfl
theorem run_trunc (n : Nat) (h : n < 9007199254740992) (w : World) : (callFunc 137 #[.float .f64 (fl n)]).run Tryz.prog w = .ok (.value (.float .f64 (fl n))) w :=
  run_entry Tryz.func137 (by kernel_rfl) (by kernel_rfl) (by kernel_rfl) (e := Extern.MathFloor.toIntegral "math.archTrunc" .zero) (by kernel_rfl) (run_integral _ n h w)

theorem trunc_fl (n : Nat) (h : n < 9007199254740992) (w : World) : Calls Tryz.prog 131 #[.float .f64 (fl n)] w fun e w' => e = .returned (.float .f64 (fl n)) ∧ w = w' := by
  have hr := fun w => run_trunc n h w
  go_enter Tryz.func131, Tryz.ntmps131
  go_wp2
  go_ret
  exact ⟨rfl, rfl⟩

theorem lt_of_part {n : Nat} (h : n ≤ 1125899906842624) : n < 9007199254740992 := by omega
theorem fl_zero : fl 0 = 0 := by decide +kernel
theorem fl_most : fl 1125899906842624 = 4832362400168542208 := by decide +kernel
theorem isPart_fl (n : Nat) (h : n ≤ 1125899906842624) (w : World) : Calls Tryz.prog 117 #[.float .f64 (fl n)] w fun e w' => e = .returned (.bool true) ∧ w = w' := by
  have o1 := order_fl 0 n (by decide) (lt_of_part h)
  have o2 := order_fl n 1125899906842624 (lt_of_part h) (by decide)
  have o3 := order_fl n n (lt_of_part h) (lt_of_part h)
  rw [show ((0 : Nat) : Int) = 0 from rfl, fl_zero] at o1
  rw [show ((1125899906842624 : Nat) : Int) = 1125899906842624 from rfl, fl_most] at o2
  have c3 : compare n n = .eq := by simp
  have c1 : (FloatKind.f64.format.order 0 (fl n) == some .lt || FloatKind.f64.format.order 0 (fl n) == some .eq) = true := by
    rw [o1]
    by_cases h0 : n = 0
    · subst h0; decide
    · rw [Nat.compare_eq_lt.2 (by omega)]; decide
  have c2 : (FloatKind.f64.format.order (fl n) 4832362400168542208 == some .lt || FloatKind.f64.format.order (fl n) 4832362400168542208 == some .eq) = true := by
    rw [o2]
    by_cases h0 : n = 1125899906842624
    · subst h0; decide
    · rw [Nat.compare_eq_lt.2 (by omega)]; decide
  have c4 : (FloatKind.f64.format.order (fl n) (fl n) == some .eq) = true := by rw [o3, c3]; decide
  clear o1 o2 o3 c3
  go_enter Tryz.func117, Tryz.ntmps117
  go_wp2_with (refine (trunc_fl n (lt_of_part h) w).mono ?_; rintro e w' ⟨rfl, rfl⟩)
  go_ret
  exact ⟨rfl, rfl⟩

theorem right_fl (a b : Nat) (ha : a ≤ 1125899906842624) (hb : b ≤ 1125899906842624) (w : World) : Calls Tryz.prog 99 #[.complex .f64 (fl a) (fl b)] w fun e w' => e = .returned (.bool true) ∧ w = w' := by
  go_enter Tryz.func99, Tryz.ntmps99
  go_wp2_with (first | ((with_reducible refine (isPart_fl a ha w).mono ?_); rintro e w' ⟨rfl, rfl⟩) | ((with_reducible refine (isPart_fl b hb w).mono ?_); rintro e w' ⟨rfl, rfl⟩))
  go_ret
  exact ⟨rfl, rfl⟩

theorem parts_fl (a b : Nat) (ha : a ≤ 1125899906842624) (hb : b ≤ 1125899906842624) (w : World) : Calls Tryz.prog 78 #[.complex .f64 (fl a) (fl b)] w fun e w' => e = .returned (.tuple #[.int .i64 a, .int .i64 b, .bool true]) ∧ w = w' := by
  have i1 := fun (w : World) => run_convert_float_int (P := Tryz.prog) w 76 2 .f64 .i64 (fl a) a (by kernel_rfl) (by kernel_rfl) (toIntVal_fl a (lt_of_part ha))
  have i2 := fun (w : World) => run_convert_float_int (P := Tryz.prog) w 76 2 .f64 .i64 (fl b) b (by kernel_rfl) (by kernel_rfl) (toIntVal_fl b (lt_of_part hb))
  go_enter Tryz.func78, Tryz.ntmps78
  go_wp2_with ((with_reducible refine (right_fl a b ha hb w).mono ?_); rintro e w' ⟨rfl, rfl⟩)
  go_ret3
  exact ⟨rfl, rfl⟩

theorem net_fl (a b : Nat) (ha : a ≤ 1125899906842624) (hb : b ≤ 1125899906842624) (w : World) : Calls Tryz.prog 41 #[.complex .f64 (fl a) (fl b)] w fun e w' => e = .returned (.int .i64 ((a : Int) - b)) ∧ w = w' := by
  go_enter Tryz.func41, Tryz.ntmps41
  go_wp2_with ((with_reducible refine (parts_fl a b ha hb w).mono ?_); rintro e w' ⟨rfl, rfl⟩)
  go_ret
  exact ⟨rfl, rfl⟩

theorem size_any (n : Int) (h1 : -4611686018427387904 ≤ n) (h2 : n ≤ 4611686018427387904) (w : World) : Calls Tryz.prog 119 #[.int .i64 n] w fun e w' => e = .returned (.int .i64 (n.natAbs : Int)) ∧ w = w' := by
  go_enter Tryz.func119, Tryz.ntmps119
  go_wp2
  all_goals
    go_ret
    exact ⟨ret_of_eq' (by omega), rfl⟩

theorem ret_fl {a b c d : Int} (h1 : a = b) (h2 : c = d) : Ending.returned (.complex .f64 (fl a) (fl c)) = .returned (.complex .f64 (fl b) (fl d)) := by rw [h1, h2]

/-- p and q are the parts of the reduced tally with this Net. -/
def Red (n : Int) (p q : Nat) : Prop := (p : Int) - q = n ∧ (p = 0 ∨ q = 0)
theorem ofNet_any (n : Int) (p q : Nat) (hr : Red n p q) (h1 : -4611686018427387904 ≤ n) (h2 : n ≤ 4611686018427387904) (w : World) : Calls Tryz.prog 120 #[.int .i64 n] w fun e w' => e = .returned (.complex .f64 (fl p) (fl q)) ∧ w = w' := by
  by_cases h0 : 0 < n
  · go_enter Tryz.func120, Tryz.ntmps120
    go_wp2_with ((with_reducible refine (of_any _ _ _).mono ?_); rintro e w' ⟨rfl, rfl⟩)
    all_goals
      go_ret
      unfold Red at hr
      exact ⟨ret_fl (by omega) (by omega), rfl⟩
  · go_enter Tryz.func120, Tryz.ntmps120
    go_wp2_with ((with_reducible refine (of_any _ _ _).mono ?_); rintro e w' ⟨rfl, rfl⟩)
    all_goals
      go_ret
      unfold Red at hr
      exact ⟨ret_fl (by omega) (by omega), rfl⟩

theorem reduce_fl (a b p q : Nat) (ha : a ≤ 1125899906842624) (hb : b ≤ 1125899906842624) (h : Red ((a : Int) - b) p q) (w : World) : Calls Tryz.prog 105 #[.complex .f64 (fl a) (fl b)] w fun e w' => e = .returned (.complex .f64 (fl p) (fl q)) ∧ w = w' := by
  go_enter Tryz.func105, Tryz.ntmps105
  go_wp2_with (first | ((with_reducible refine (net_fl a b ha hb w).mono ?_); rintro e w' ⟨rfl, rfl⟩) | ((with_reducible refine (ofNet_any _ p q h (by omega) (by omega) w).mono ?_); rintro e w' ⟨rfl, rfl⟩))
  go_ret
  exact ⟨rfl, rfl⟩

/-- Add: where the sum of the Nets is small enough. -/
theorem add_fl (a b c d p q : Nat) (ha : a ≤ 1125899906842624) (hb : b ≤ 1125899906842624) (hc : c ≤ 1125899906842624) (hd : d ≤ 1125899906842624) (h : Red ((a : Int) - b + ((c : Int) - d)) p q) (h1 : p ≤ 1125899906842624) (h2 : q ≤ 1125899906842624) (w : World) :
    Calls Tryz.prog 102 #[.complex .f64 (fl a) (fl b), .complex .f64 (fl c) (fl d)] w fun e w' => e = .returned (.tuple #[.complex .f64 (fl p) (fl q), .bool true]) ∧ w = w' := by
  have k : ¬ (1125899906842624 : Int) < (((a : Int) - b + ((c : Int) - d)).natAbs : Int) := by unfold Red at h; omega
  go_enter Tryz.func102, Tryz.ntmps102
  go_wp2_with (first | ((with_reducible refine (right_fl a b ha hb w).mono ?_); rintro e w' ⟨rfl, rfl⟩) | ((with_reducible refine (right_fl c d hc hd w).mono ?_); rintro e w' ⟨rfl, rfl⟩) | ((with_reducible refine (net_fl a b ha hb w).mono ?_); rintro e w' ⟨rfl, rfl⟩) | ((with_reducible refine (net_fl c d hc hd w).mono ?_); rintro e w' ⟨rfl, rfl⟩) | ((with_reducible refine (size_any _ (by omega) (by omega) w).mono ?_); rintro e w' ⟨rfl, rfl⟩) | ((with_reducible refine (ofNet_any _ p q h (by omega) (by omega) w).mono ?_); rintro e w' ⟨rfl, rfl⟩))
  go_ret2
  exact ⟨rfl, rfl⟩

/-- Add: where it is too great. -/
theorem add_over (a b c d : Nat) (ha : a ≤ 1125899906842624) (hb : b ≤ 1125899906842624) (hc : c ≤ 1125899906842624) (hd : d ≤ 1125899906842624) (k : (1125899906842624 : Int) < (((a : Int) - b + ((c : Int) - d)).natAbs : Int)) (w : World) :
    Calls Tryz.prog 102 #[.complex .f64 (fl a) (fl b), .complex .f64 (fl c) (fl d)] w fun e w' => e = .returned (.tuple #[.complex .f64 0 0, .bool false]) ∧ w = w' := by
  go_enter Tryz.func102, Tryz.ntmps102
  go_wp2_with (first | ((with_reducible refine (right_fl a b ha hb w).mono ?_); rintro e w' ⟨rfl, rfl⟩) | ((with_reducible refine (right_fl c d hc hd w).mono ?_); rintro e w' ⟨rfl, rfl⟩) | ((with_reducible refine (net_fl a b ha hb w).mono ?_); rintro e w' ⟨rfl, rfl⟩) | ((with_reducible refine (net_fl c d hc hd w).mono ?_); rintro e w' ⟨rfl, rfl⟩) | ((with_reducible refine (size_any _ (by omega) (by omega) w).mono ?_); rintro e w' ⟨rfl, rfl⟩))
  go_ret2
  exact ⟨rfl, rfl⟩

theorem net_x (a b : Nat) (x : Int) (hx : Hid ((a : Int) - b = x)) (ha : a ≤ 1125899906842624) (hb : b ≤ 1125899906842624) (w : World) : Calls Tryz.prog 41 #[.complex .f64 (fl a) (fl b)] w fun e w' => e = .returned (.int .i64 x) ∧ w = w' := by
  have := hx.out
  subst this
  exact net_fl a b ha hb w
end Go.Proofs.YthpiobkghfdkkaaGreat

namespace Go.Proofs.YthpiobkghfdkkaaGreat
open Go.RowKit
set_option linter.unusedVariables false

/-- A part of a tally. -/
def Part (a : Int) : Prop := 0 ≤ a ∧ a ≤ 1125899906842624
theorem Part.nat {a : Int} (h : Part a) : ∃ n : Nat, a = n ∧ n ≤ 1125899906842624 := ⟨a.toNat, by unfold Part at h; omega⟩
/-- p and q are the parts of the reduced tally with this Net. -/
def Redi (n p q : Int) : Prop := 0 ≤ p ∧ 0 ≤ q ∧ p - q = n ∧ (p = 0 ∨ q = 0)
theorem Redi.red {n : Int} {p q : Nat} (h : Redi n p q) : Red n p q := by unfold Redi at h; unfold Red; omega
/-- Two floats of one whole number are equal. -/
theorem same_fl {a : Int} (h : Part a) : FloatKind.f64.format.order (fl a) (fl a) = some .eq := by
  obtain ⟨n, rfl, hn⟩ := h.nat
  rw [order_fl n n (by omega) (by omega)]
  simp

theorem right_i (a b : Int) (ha : Part a) (hb : Part b) (w : World) : Calls Tryz.prog 99 #[.complex .f64 (fl a) (fl b)] w fun e w' => e = .returned (.bool true) ∧ w = w' := by
  obtain ⟨a, rfl, ma⟩ := ha.nat
  obtain ⟨b, rfl, mb⟩ := hb.nat
  exact right_fl a b ma mb w
theorem net_i (a b x : Int) (hx : Hid (a - b = x)) (ha : Part a) (hb : Part b) (w : World) : Calls Tryz.prog 41 #[.complex .f64 (fl a) (fl b)] w fun e w' => e = .returned (.int .i64 x) ∧ w = w' := by
  obtain ⟨a, rfl, ma⟩ := ha.nat
  obtain ⟨b, rfl, mb⟩ := hb.nat
  exact net_x a b x hx ma mb w
theorem reduce_i (a b p q : Int) (ha : Part a) (hb : Part b) (h : Redi (a - b) p q) (w : World) : Calls Tryz.prog 105 #[.complex .f64 (fl a) (fl b)] w fun e w' => e = .returned (.complex .f64 (fl p) (fl q)) ∧ w = w' := by
  obtain ⟨a, rfl, ma⟩ := ha.nat
  obtain ⟨b, rfl, mb⟩ := hb.nat
  obtain ⟨p, rfl⟩ := Int.eq_ofNat_of_zero_le h.1
  obtain ⟨q, rfl⟩ := Int.eq_ofNat_of_zero_le h.2.1
  exact reduce_fl a b p q ma mb h.red w
theorem add_i (a b c d p q n : Int) (ha : Part a) (hb : Part b) (hc : Part c) (hd : Part d) (hn : Hid (a - b + (c - d) = n)) (h : Redi n p q) (hp : Part p) (hq : Part q) (w : World) :
    Calls Tryz.prog 102 #[.complex .f64 (fl a) (fl b), .complex .f64 (fl c) (fl d)] w fun e w' => e = .returned (.tuple #[.complex .f64 (fl p) (fl q), .bool true]) ∧ w = w' := by
  have hn := hn.out
  subst hn
  obtain ⟨a, rfl, ma⟩ := ha.nat
  obtain ⟨b, rfl, mb⟩ := hb.nat
  obtain ⟨c, rfl, mc⟩ := hc.nat
  obtain ⟨d, rfl, md⟩ := hd.nat
  obtain ⟨p, rfl, mp⟩ := hp.nat
  obtain ⟨q, rfl, mq⟩ := hq.nat
  exact add_fl a b c d p q ma mb mc md h.red mp mq w
theorem add_o (a b c d : Int) (ha : Part a) (hb : Part b) (hc : Part c) (hd : Part d) (k : Hid ((1125899906842624 : Int) < ((a - b + (c - d)).natAbs : Int))) (w : World) :
    Calls Tryz.prog 102 #[.complex .f64 (fl a) (fl b), .complex .f64 (fl c) (fl d)] w fun e w' => e = .returned (.tuple #[.complex .f64 0 0, .bool false]) ∧ w = w' := by
  obtain ⟨a, rfl, ma⟩ := ha.nat
  obtain ⟨b, rfl, mb⟩ := hb.nat
  obtain ⟨c, rfl, mc⟩ := hc.nat
  obtain ⟨d, rfl, md⟩ := hd.nat
  exact add_over a b c d ma mb mc md k.out w
end Go.Proofs.YthpiobkghfdkkaaGreat
