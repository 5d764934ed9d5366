/-
  The contracts of package tally once more, the parts as integers; and of the statements' known and small.
-/
import Derived.Test.YtjlibmlcphbkoaaTally
namespace Go.Proofs.Ytjlibmlcphbkoaa
open Go.RowKit
set_option linter.unusedVariables false

/-- A part of a tally. -/
def Part (a : Int) : Prop := 0 ≤ a ∧ a ≤ 1125899906842624
theorem Part.nat {a : Int} (h : Part a) : ∃ n : Nat, a = n ∧ n ≤ 1125899906842624 := ⟨a.toNat, by unfold Part at h; omega⟩
/-- p and q are the parts of the reduced tally with this Net. -/
def Redi (n p q : Int) : Prop := 0 ≤ p ∧ 0 ≤ q ∧ p - q = n ∧ (p = 0 ∨ q = 0)
theorem Redi.red {n : Int} {p q : Nat} (h : Redi n p q) : Red n p q := by unfold Redi at h; unfold Red; omega
theorem Redi.same {n p q p' q' : Int} (h : Redi n p q) (h' : Redi n p' q') : p = p' ∧ q = q' := by unfold Redi at h h'; omega
theorem Redi.ex (n : Int) : ∃ p q, Redi n p q := ⟨n.toNat, (-n).toNat, by unfold Redi; omega⟩
theorem Redi.part {n p q : Int} (h : Redi n p q) (h1 : -1125899906842624 ≤ n) (h2 : n ≤ 1125899906842624) : Part p ∧ Part q := by unfold Redi at h; unfold Part; omega

/-- Two floats of one whole number are equal. -/
theorem same_fl {a : Int} (h : Part a) : FloatKind.f64.format.order (fl a) (fl a) = some .eq := by
  obtain ⟨n, rfl, hn⟩ := h.nat
  rw [order_fl n n (by omega) (by omega)]
  simp

theorem right_i (a b : Int) (ha : Part a) (hb : Part b) (w : World) : Calls Try.prog 10 #[.complex .f64 (fl a) (fl b)] w fun e w' => e = .returned (.bool true) ∧ w = w' := by
  obtain ⟨a, rfl, ma⟩ := ha.nat
  obtain ⟨b, rfl, mb⟩ := hb.nat
  exact right_fl a b ma mb w
theorem parts_i (a b : Int) (ha : Part a) (hb : Part b) (w : World) : Calls Try.prog 9 #[.complex .f64 (fl a) (fl b)] w fun e w' => e = .returned (.tuple #[.int .i64 a, .int .i64 b, .bool true]) ∧ w = w' := by
  obtain ⟨a, rfl, ma⟩ := ha.nat
  obtain ⟨b, rfl, mb⟩ := hb.nat
  exact parts_fl a b ma mb w
theorem net_i (a b x : Int) (hx : Hid (a - b = x)) (ha : Part a) (hb : Part b) (w : World) : Calls Try.prog 15 #[.complex .f64 (fl a) (fl b)] w fun e w' => e = .returned (.int .i64 x) ∧ w = w' := by
  obtain ⟨a, rfl, ma⟩ := ha.nat
  obtain ⟨b, rfl, mb⟩ := hb.nat
  exact net_x a b x hx ma mb w
theorem flip_i (a b : Int) (ha : Part a) (hb : Part b) (w : World) : Calls Try.prog 12 #[.complex .f64 (fl a) (fl b)] w fun e w' => e = .returned (.complex .f64 (fl b) (fl a)) ∧ w = w' := by
  obtain ⟨a, rfl, ma⟩ := ha.nat
  obtain ⟨b, rfl, mb⟩ := hb.nat
  exact flip_fl a b ma mb w
theorem reduce_i (a b p q : Int) (ha : Part a) (hb : Part b) (h : Redi (a - b) p q) (w : World) : Calls Try.prog 11 #[.complex .f64 (fl a) (fl b)] w fun e w' => e = .returned (.complex .f64 (fl p) (fl q)) ∧ w = w' := by
  obtain ⟨a, rfl, ma⟩ := ha.nat
  obtain ⟨b, rfl, mb⟩ := hb.nat
  obtain ⟨p, rfl⟩ := Int.eq_ofNat_of_zero_le h.1
  obtain ⟨q, rfl⟩ := Int.eq_ofNat_of_zero_le h.2.1
  exact reduce_fl a b p q ma mb h.red w
theorem add_i (a b c d p q n : Int) (ha : Part a) (hb : Part b) (hc : Part c) (hd : Part d) (hn : Hid (a - b + (c - d) = n)) (h : Redi n p q) (hp : Part p) (hq : Part q) (w : World) :
    Calls Try.prog 7 #[.complex .f64 (fl a) (fl b), .complex .f64 (fl c) (fl d)] w fun e w' => e = .returned (.tuple #[.complex .f64 (fl p) (fl q), .bool true]) ∧ w = w' := by
  have hn := hn.out
  subst hn
  obtain ⟨a, rfl, ma⟩ := ha.nat
  obtain ⟨b, rfl, mb⟩ := hb.nat
  obtain ⟨c, rfl, mc⟩ := hc.nat
  obtain ⟨d, rfl, md⟩ := hd.nat
  obtain ⟨p, rfl, mp⟩ := hp.nat
  obtain ⟨q, rfl, mq⟩ := hq.nat
  exact add_fl a b c d p q ma mb mc md h.red mp mq w
theorem add_o (a b c d : Int) (ha : Part a) (hb : Part b) (hc : Part c) (hd : Part d) (k : Hid ((1125899906842624 : Int) < ((a - b + (c - d)).natAbs : Int))) (w : World) :
    Calls Try.prog 7 #[.complex .f64 (fl a) (fl b), .complex .f64 (fl c) (fl d)] w fun e w' => e = .returned (.tuple #[.complex .f64 0 0, .bool false]) ∧ w = w' := by
  obtain ⟨a, rfl, ma⟩ := ha.nat
  obtain ⟨b, rfl, mb⟩ := hb.nat
  obtain ⟨c, rfl, mc⟩ := hc.nat
  obtain ⟨d, rfl, md⟩ := hd.nat
  exact add_over a b c d ma mb mc md k.out w
theorem times_i (a b c d p q x y n : Int) (hx : Hid (a - b = x)) (hy : Hid (c - d = y)) (ha : Part a) (hb : Part b) (hc : Part c) (hd : Part d) (hn : Hid (x * y = n)) (h : Redi n p q) (hp : Part p) (hq : Part q) (w : World) :
    Calls Try.prog 8 #[.complex .f64 (fl a) (fl b), .complex .f64 (fl c) (fl d)] w fun e w' => e = .returned (.tuple #[.complex .f64 (fl p) (fl q), .bool true]) ∧ w = w' := by
  have hn := hn.out
  subst hn
  obtain ⟨a, rfl, ma⟩ := ha.nat
  obtain ⟨b, rfl, mb⟩ := hb.nat
  obtain ⟨c, rfl, mc⟩ := hc.nat
  obtain ⟨d, rfl, md⟩ := hd.nat
  obtain ⟨p, rfl, mp⟩ := hp.nat
  obtain ⟨q, rfl, mq⟩ := hq.nat
  exact times_fl a b c d p q x y hx.out hy.out ma mb mc md h.red mp mq w

set_option maxHeartbeats 400000 in
/-- Times: where it is too great. -/
theorem times_o (a b c d x y k l : Int) (hx : Hid (a - b = x)) (hy : Hid (c - d = y)) (ha : Part a) (hb : Part b) (hc : Part c) (hd : Part d) (hk : Hid ((x.natAbs : Int) = k)) (hl : Hid ((y.natAbs : Int) = l)) (h0 : x ≠ 0) (h : 1125899906842624 / k < l) (w : World) :
    Calls Try.prog 8 #[.complex .f64 (fl a) (fl b), .complex .f64 (fl c) (fl d)] w fun e w' => e = .returned (.tuple #[.complex .f64 0 0, .bool false]) ∧ w = w' := by
  obtain ⟨x1, x2, y1, y2, k0⟩ : -1125899906842624 ≤ x ∧ x ≤ 1125899906842624 ∧ -1125899906842624 ≤ y ∧ y ≤ 1125899906842624 ∧ 0 < k := by
    have := hx.out; have := hy.out; have := hk.out
    unfold Part at ha hb hc hd
    omega
  have sk := fun w => size_m x x.natAbs (Lib.hid rfl) (by omega) (by omega) w
  have sl := fun w => size_m y y.natAbs (Lib.hid rfl) (by omega) (by omega) w
  rw [hk.out] at sk
  rw [hl.out] at sl
  have HA := Lib.hid ha
  have HB := Lib.hid hb
  have HC := Lib.hid hc
  have HD := Lib.hid hd
  have SK := Lib.hid sk
  have SL := Lib.hid sl
  clear sk sl ha hb hc hd
  go_enter Try.func8, Try.ntmps8
  go_wp2_with (first | ((with_reducible refine (right_i a b HA.out HB.out w).mono ?_); rintro e w' ⟨rfl, rfl⟩) | ((with_reducible refine (right_i c d HC.out HD.out w).mono ?_); rintro e w' ⟨rfl, rfl⟩) | ((with_reducible refine (net_i a b _ hx HA.out HB.out w).mono ?_); rintro e w' ⟨rfl, rfl⟩) | ((with_reducible refine (net_i c d _ hy HC.out HD.out w).mono ?_); rintro e w' ⟨rfl, rfl⟩) | ((with_reducible refine (SK.out w).mono ?_); rintro e w' ⟨rfl, rfl⟩) | ((with_reducible refine (SL.out w).mono ?_); rintro e w' ⟨rfl, rfl⟩))
  go_ret2
  exact ⟨rfl, rfl⟩

theorem known_any (w : World) : Calls Try.prog 13 #[] w fun e w' => e = .returned (.bool true) ∧ w = w' := by
  have q1 : FloatKind.f64.format.order (fl 0) 0 = some .eq := by decide +kernel
  have q2 : FloatKind.f64.format.order (fl 2) 4611686018427387904 = some .eq := by decide +kernel
  have q3 : FloatKind.f64.format.order (fl 6) 4618441417868443648 = some .eq := by decide +kernel
  have A1 := fun w => add_i 3 1 1 5 0 2 (-2) (by unfold Part; omega) (by unfold Part; omega) (by unfold Part; omega) (by unfold Part; omega) (Lib.hid (by omega)) (by unfold Redi; omega) (by unfold Part; omega) (by unfold Part; omega) w
  have A2 := fun w => times_i 0 2 0 3 6 0 (-2) (-3) 6 (Lib.hid (by omega)) (Lib.hid (by omega)) (by unfold Part; omega) (by unfold Part; omega) (by unfold Part; omega) (by unfold Part; omega) (Lib.hid (by omega)) (by unfold Redi; omega) (by unfold Part; omega) (by unfold Part; omega) w
  have A3 := fun w => net_i 2 5 (-3) (Lib.hid (by omega)) (by unfold Part; omega) (by unfold Part; omega) w
  have H1 := Lib.hid A1
  have H2 := Lib.hid A2
  have H3 := Lib.hid A3
  clear A1 A2 A3
  go_enter Try.func13, Try.ntmps13
  go_wp2_with (first | ((with_reducible refine (of_any _ _ w).mono ?_); rintro e w' ⟨rfl, rfl⟩) | ((with_reducible refine (H1.out w).mono ?_); rintro e w' ⟨rfl, rfl⟩) | ((with_reducible refine (H2.out w).mono ?_); rintro e w' ⟨rfl, rfl⟩) | ((with_reducible refine (H3.out w).mono ?_); rintro e w' ⟨rfl, rfl⟩))
  go_ret
  exact ⟨rfl, rfl⟩

theorem small_any (a b : Int) (w : World) (h1 : (Lit.int .i64 a).wf = true) (h2 : (Lit.int .i64 b).wf = true) : Calls Try.prog 14 #[.int .i64 a, .int .i64 b] w fun e w' => e = .returned (.complex .f64 (fl (within a 0 1000)) (fl (within b 0 1000))) ∧ w = w' := by
  have B1 := Lib.hid (fun w => within_any a 0 1000 w h1 (by omega) (by omega) (by omega))
  have B2 := Lib.hid (fun w => within_any b 0 1000 w h2 (by omega) (by omega) (by omega))
  obtain ⟨r1, r2⟩ := within_range (n := a) (lo := 0) (hi := 1000) (by omega)
  obtain ⟨s1, s2⟩ := within_range (n := b) (lo := 0) (hi := 1000) (by omega)
  generalize within a 0 1000 = a' at *
  generalize within b 0 1000 = b' at *
  clear h1 h2
  go_enter Try.func14, Try.ntmps14
  go_wp2_with (first | ((with_reducible refine (B1.out w).mono ?_); rintro e w' ⟨rfl, rfl⟩) | ((with_reducible refine (B2.out w).mono ?_); rintro e w' ⟨rfl, rfl⟩) | ((with_reducible refine (of_any _ _ w).mono ?_); rintro e w' ⟨rfl, rfl⟩))
  go_ret
  exact ⟨rfl, rfl⟩

end Go.Proofs.Ytjlibmlcphbkoaa
