/-
  The contracts of package tally once more, the parts as integers; and of the statements' known and small.
-/
import Derived.Test.YtcenjjoadhfhaaaTally
namespace Go.Proofs.Ytcenjjoadhfhaaa
open Go.RowKit
set_option linter.unusedVariables false

/-- A part of a tally. -/
def Part (a : Int) : Prop := 0 ≤ a ∧ a ≤ 1125899906842624
theorem Part.nat {a : Int} (h : Part a) : ∃ n : Nat, a = n ∧ n ≤ 1125899906842624 := ⟨a.toNat, by unfold Part at h; omega⟩
/-- p and q are the parts of the reduced tally with this Net. -/
def Redi (n p q : Int) : Prop := 0 ≤ p ∧ 0 ≤ q ∧ p - q = n ∧ (p = 0 ∨ q = 0)
theorem Redi.red {n : Int} {p q : Nat} (h : Redi n p q) : Red n p q := by unfold Redi at h; unfold Red; omega
theorem Redi.same {n p q p' q' : Int} (h : Redi n p q) (h' : Redi n p' q') : p = p' ∧ q = q' := by unfold Redi at h h'; omega
theorem Redi.ex (n : Int) : ∃ p q, Redi n p q := ⟨n.toNat, (-n).toNat, by unfold Redi; omega⟩
theorem Redi.part {n p q : Int} (h : Redi n p q) (h1 : -1125899906842624 ≤ n) (h2 : n ≤ 1125899906842624) : Part p ∧ Part q := by unfold Redi at h; unfold Part; omega

/-- Two floats of one whole number are equal. -/
theorem same_fl {a : Int} (h : Part a) : FloatKind.f64.format.order (fl a) (fl a) = some .eq := by
  obtain ⟨n, rfl, hn⟩ := h.nat
  rw [order_fl n n (by omega) (by omega)]
  simp

theorem right_i (a b : Int) (ha : Part a) (hb : Part b) (w : World) : Calls Try.prog 31 #[.complex .f64 (fl a) (fl b)] w fun e w' => e = .returned (.bool true) ∧ w = w' := by
  obtain ⟨a, rfl, ma⟩ := ha.nat
  obtain ⟨b, rfl, mb⟩ := hb.nat
  exact right_fl a b ma mb w
theorem parts_i (a b : Int) (ha : Part a) (hb : Part b) (w : World) : Calls Try.prog 35 #[.complex .f64 (fl a) (fl b)] w fun e w' => e = .returned (.tuple #[.int .i64 a, .int .i64 b, .bool true]) ∧ w = w' := by
  obtain ⟨a, rfl, ma⟩ := ha.nat
  obtain ⟨b, rfl, mb⟩ := hb.nat
  exact parts_fl a b ma mb w
theorem net_i (a b x : Int) (hx : Hid (a - b = x)) (ha : Part a) (hb : Part b) (w : World) : Calls Try.prog 21 #[.complex .f64 (fl a) (fl b)] w fun e w' => e = .returned (.int .i64 x) ∧ w = w' := by
  obtain ⟨a, rfl, ma⟩ := ha.nat
  obtain ⟨b, rfl, mb⟩ := hb.nat
  exact net_x a b x hx ma mb w
theorem reduce_i (a b p q : Int) (ha : Part a) (hb : Part b) (h : Redi (a - b) p q) (w : World) : Calls Try.prog 44 #[.complex .f64 (fl a) (fl b)] w fun e w' => e = .returned (.complex .f64 (fl p) (fl q)) ∧ w = w' := by
  obtain ⟨a, rfl, ma⟩ := ha.nat
  obtain ⟨b, rfl, mb⟩ := hb.nat
  obtain ⟨p, rfl⟩ := Int.eq_ofNat_of_zero_le h.1
  obtain ⟨q, rfl⟩ := Int.eq_ofNat_of_zero_le h.2.1
  exact reduce_fl a b p q ma mb h.red w
theorem add_i (a b c d p q n : Int) (ha : Part a) (hb : Part b) (hc : Part c) (hd : Part d) (hn : Hid (a - b + (c - d) = n)) (h : Redi n p q) (hp : Part p) (hq : Part q) (w : World) :
    Calls Try.prog 34 #[.complex .f64 (fl a) (fl b), .complex .f64 (fl c) (fl d)] w fun e w' => e = .returned (.tuple #[.complex .f64 (fl p) (fl q), .bool true]) ∧ w = w' := by
  have hn := hn.out
  subst hn
  obtain ⟨a, rfl, ma⟩ := ha.nat
  obtain ⟨b, rfl, mb⟩ := hb.nat
  obtain ⟨c, rfl, mc⟩ := hc.nat
  obtain ⟨d, rfl, md⟩ := hd.nat
  obtain ⟨p, rfl, mp⟩ := hp.nat
  obtain ⟨q, rfl, mq⟩ := hq.nat
  exact add_fl a b c d p q ma mb mc md h.red mp mq w
theorem add_o (a b c d : Int) (ha : Part a) (hb : Part b) (hc : Part c) (hd : Part d) (k : Hid ((1125899906842624 : Int) < ((a - b + (c - d)).natAbs : Int))) (w : World) :
    Calls Try.prog 34 #[.complex .f64 (fl a) (fl b), .complex .f64 (fl c) (fl d)] w fun e w' => e = .returned (.tuple #[.complex .f64 0 0, .bool false]) ∧ w = w' := by
  obtain ⟨a, rfl, ma⟩ := ha.nat
  obtain ⟨b, rfl, mb⟩ := hb.nat
  obtain ⟨c, rfl, mc⟩ := hc.nat
  obtain ⟨d, rfl, md⟩ := hd.nat
  exact add_over a b c d ma mb mc md k.out w
end Go.Proofs.Ytcenjjoadhfhaaa
