/-
  Texts that belong together: Whole numbers from 0 to 2^53 - 1 as floats of 64 bits: each is itself, they stand to each other as the numbers do, and cutting towards zero leaves them. Nothing of the program is imported here.
-/
import Derived.Laws.Cover2
import Derived.Laws.FloatArith
namespace Go.Proofs.YthpiobkghfdkkaaGreat
open Ieee

/-- The word of a whole number. -/
abbrev fl (n : Int) : Nat := floatOfInt .f64 n

theorem read_double (L k : Nat) (hL : L ≤ 52) (h1 : 4503599627370496 ≤ k) (h2 : k < 9007199254740992) :
    double.read ((L + 1022) * 4503599627370496 + k) = .number false k ((L : Int) - 52) := by
  have e1 : double.signWeight = 9223372036854775808 := by decide
  have e2 : double.binade = 4503599627370496 := by decide
  have e3 : double.infRung = 9218868437227405312 := by decide
  have e4 : double.leastPlace = -1074 := by decide
  unfold Format.read
  simp only [e1, e2, e3, e4]
  have a1 : ((L + 1022) * 4503599627370496 + k) / 9223372036854775808 = 0 := by omega
  have a2 : ((L + 1022) * 4503599627370496 + k) % 9223372036854775808 = (L + 1022) * 4503599627370496 + k := by omega
  have a3 : ((L + 1022) * 4503599627370496 + k) / 4503599627370496 = L + 1023 := by omega
  have a4 : ((L + 1022) * 4503599627370496 + k) % 4503599627370496 = k - 4503599627370496 := by omega
  rw [a1, a2, a3, a4, if_neg (by omega), if_pos (by omega)]
  simp only [Datum.number.injEq]
  refine ⟨by decide, by omega, by omega⟩

theorem cut_nothing (way : Toward) (neg : Bool) (n : Nat) : way.cut neg n 0 = n := by
  unfold Toward.cut
  simp only [Nat.zero_min, Nat.shiftLeft_zero, Nat.div_one, Nat.mod_one, Nat.mul_zero]
  cases way <;> simp

theorem nearest_double (n : Nat) (h0 : n ≠ 0) (h : n < 9007199254740992) :
    double.nearest false n 0 = (n.log2 + 1022) * 4503599627370496 + n * 2 ^ (52 - n.log2) ∧ n.log2 ≤ 52 ∧ 4503599627370496 ≤ n * 2 ^ (52 - n.log2) ∧ n * 2 ^ (52 - n.log2) < 9007199254740992 := by
  have hL : n.log2 ≤ 52 := by
    have := (Nat.log2_lt h0 (k := 53)).2 (by omega)
    omega
  have b1 : 2 ^ n.log2 ≤ n := Nat.log2_self_le h0
  have b2 : n < 2 ^ (n.log2 + 1) := Nat.lt_log2_self
  have p1 : 4503599627370496 = 2 ^ n.log2 * 2 ^ (52 - n.log2) := by rw [← Nat.pow_add, show n.log2 + (52 - n.log2) = 52 by omega]
  have p2 : 9007199254740992 = 2 ^ (n.log2 + 1) * 2 ^ (52 - n.log2) := by rw [← Nat.pow_add, show n.log2 + 1 + (52 - n.log2) = 53 by omega]
  have q1 : 4503599627370496 ≤ n * 2 ^ (52 - n.log2) := by rw [p1]; exact Nat.mul_le_mul_right _ b1
  have q2 : n * 2 ^ (52 - n.log2) < 9007199254740992 := by rw [p2]; exact Nat.mul_lt_mul_of_pos_right b2 (Nat.two_pow_pos _)
  refine ⟨?_, hL, q1, q2⟩
  have e2 : double.binade = 4503599627370496 := by decide
  have e3 : double.infRung = 9218868437227405312 := by decide
  have e4 : double.leastPlace = -1074 := by decide
  have e5 : double.fractionBits = 52 := by decide
  unfold Format.nearest
  rw [if_neg h0]
  simp only [e2, e3, e4, e5]
  have m : max ((0 : Int) + (n.log2 : Int) - ((52 : Nat) : Int)) (-1074) = (n.log2 : Int) - 52 := by omega
  rw [m]
  have t1 : ((0 : Int) - ((n.log2 : Int) - 52)).toNat = 52 - n.log2 := by omega
  have t2 : ((n.log2 : Int) - 52 - 0).toNat = 0 := by omega
  have t3 : ((n.log2 : Int) - 52 - -1074).toNat = n.log2 + 1022 := by omega
  rw [t1, t2, t3, cut_nothing, Nat.shiftLeft_eq]
  rw [Nat.min_eq_left (by omega)]
  rfl

/-- The datum of a whole number that is not 0. -/
theorem decode_fl (n : Nat) (h0 : n ≠ 0) (h : n < 9007199254740992) :
    FloatKind.f64.decode (fl n) = .number false (n * 2 ^ (52 - n.log2)) ((n.log2 : Int) - 52) ∧ n.log2 ≤ 52 := by
  obtain ⟨e, hL, q1, q2⟩ := nearest_double n h0 h
  refine ⟨?_, hL⟩
  have hn : decide ((n : Int) < 0) = false := by simp
  have : fl n = double.nearest false n 0 := by
    show double.nearest (decide ((n : Int) < 0)) (n : Int).natAbs 0 = _
    rw [hn, Int.natAbs_natCast]
  rw [this, e]
  exact read_double _ _ hL q1 q2
theorem decode_fl_zero : FloatKind.f64.decode (fl 0) = .number false 0 (-1074) := by decide +kernel

theorem shift_all (n k up : Nat) : (n * 2 ^ k) <<< up = n * 2 ^ (k + up) := by rw [Nat.shiftLeft_eq, Nat.mul_assoc, ← Nat.pow_add]

/-- The datum of a whole number: it is n. -/
theorem decode_all (n : Nat) (h : n < 9007199254740992) : ∃ (m : Nat) (p : Nat), FloatKind.f64.decode (fl n) = .number false m (-(p : Int)) ∧ m = n * 2 ^ (p - 0) ∧ p ≤ 1074 ∧ (n ≠ 0 → p ≤ 52) := by
  by_cases h0 : n = 0
  · subst h0
    obtain ⟨p, hp⟩ : ∃ p : Nat, p = 1074 := ⟨_, rfl⟩
    exact ⟨0, p, by rw [hp]; exact decode_fl_zero, (Nat.zero_mul _).symm, Nat.le_of_eq hp, fun h => absurd rfl h⟩
  · obtain ⟨e, hL⟩ := decode_fl n h0 h
    refine ⟨n * 2 ^ (52 - n.log2), 52 - n.log2, ?_, rfl, by omega, fun _ => by omega⟩
    rw [e, show ((n.log2 : Int) - 52) = -((52 - n.log2 : Nat) : Int) by omega]

theorem cut_back (n p : Nat) : Toward.zero.cut false (n * 2 ^ p) p = n := by
  unfold Toward.cut
  simp only [Bool.toNat_false, Nat.add_zero]
  by_cases h0 : n = 0
  · subst h0; simp
  · have hl : (n * 2 ^ p).log2 = n.log2 + p := by
      have b1 : 2 ^ n.log2 ≤ n := Nat.log2_self_le h0
      have b2 : n < 2 ^ (n.log2 + 1) := Nat.lt_log2_self
      have hne : n * 2 ^ p ≠ 0 := Nat.mul_ne_zero h0 (Nat.ne_of_gt (Nat.two_pow_pos _))
      have c1 : n.log2 + p ≤ (n * 2 ^ p).log2 := (Nat.le_log2 hne).2 (by rw [Nat.pow_add]; exact Nat.mul_le_mul_right _ b1)
      have c2 : (n * 2 ^ p).log2 < n.log2 + p + 1 := (Nat.log2_lt hne).2 (by rw [show n.log2 + p + 1 = n.log2 + 1 + p by omega, Nat.pow_add]; exact Nat.mul_lt_mul_of_pos_right b2 (Nat.two_pow_pos _))
      omega
    rw [hl, Nat.min_eq_left (by omega), Nat.shiftLeft_eq, Nat.one_mul]
    exact Nat.mul_div_cancel _ (Nat.two_pow_pos _)

theorem integral_fl (n : Nat) (h : n < 9007199254740992) : (FloatKind.f64.decode (fl n)).integral .zero = .number false n 0 := by
  obtain ⟨m, p, e, hm, _, _⟩ := decode_all n h
  rw [e]
  unfold Datum.integral
  simp only [Int.neg_neg, Int.toNat_natCast]
  rw [show (-(p : Int)).toNat = 0 by omega, Nat.shiftLeft_zero, hm, Nat.sub_zero, cut_back]

theorem toInt_fl (n : Nat) (h : n < 9007199254740992) : (FloatKind.f64.decode (fl n)).toInt .zero = some (n : Int) := by
  unfold Datum.toInt
  rw [integral_fl n h]
  simp [signed]

theorem encode_fl (n : Nat) : FloatKind.f64.encode (.number false n 0) = fl n := by
  show _ = FloatKind.f64.encode (.number (decide ((n : Int) < 0)) (n : Int).natAbs 0)
  rw [show decide ((n : Int) < 0) = false by simp, Int.natAbs_natCast]

theorem compare_shift (a b k : Nat) : compare ((a * 2 ^ k : Nat) : Int) ((b * 2 ^ k : Nat) : Int) = compare a b := by
  have hk : 0 < 2 ^ k := Nat.two_pow_pos _
  rcases Nat.lt_trichotomy a b with h | h | h
  · rw [Nat.compare_eq_lt.2 h, Int.compare_eq_lt.2 (by exact_mod_cast Nat.mul_lt_mul_of_pos_right h hk)]
  · subst h; simp
  · rw [Nat.compare_eq_gt.2 h, Int.compare_eq_gt.2 (by exact_mod_cast Nat.mul_lt_mul_of_pos_right h hk)]

/-- They stand to each other as the numbers do. -/
theorem order_fl (a b : Nat) (ha : a < 9007199254740992) (hb : b < 9007199254740992) : FloatKind.f64.format.order (fl a) (fl b) = some (compare a b) := by
  obtain ⟨m, p, e, hm, _, _⟩ := decode_all a ha
  obtain ⟨m', p', e', hm', _, _⟩ := decode_all b hb
  unfold Format.order
  have e1 : FloatKind.f64.format.read (fl a) = _ := e
  have e2 : FloatKind.f64.format.read (fl b) = _ := e'
  rw [e1, e2]
  unfold Datum.order signed
  simp only [Bool.false_eq_true, if_false, hm, hm', Nat.sub_zero, shift_all]
  rw [show p + (-(p : Int) - min (-(p : Int)) (-(p' : Int))).toNat = max p p' by omega, show p' + (-(p' : Int) - min (-(p : Int)) (-(p' : Int))).toNat = max p p' by omega, compare_shift]

/-- The number that a conversion to an integer gives. -/
theorem toIntVal_fl (n : Nat) (h : n < 9007199254740992) : floatToIntVal .f64 (fl n) .i64 = some (n : Int) := by
  unfold floatToIntVal
  rw [toInt_fl n h]
  have : IntKind.i64.min ≤ (n : Int) ∧ (n : Int) ≤ IntKind.i64.max := by
    have e1 : IntKind.i64.min = -9223372036854775808 := by decide
    have e2 : IntKind.i64.max = 9223372036854775807 := by decide
    rw [e1, e2]; omega
  exact if_pos this

end Go.Proofs.YthpiobkghfdkkaaGreat
