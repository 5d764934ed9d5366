/-
  Texts that belong together: Package expr: what operations make of numbers and texts. Package expr: products; what an operation makes of two values. Package expr: what an operation makes of two values. Package expr: of how many operands an operation is; kinds of what it makes. The document's own count. Package expr: parts of an expression; is it right?
-/
import Derived.Laws.Bits64b
import Derived.Test.YtgiofdmedhhobaaZ13N
import Derived.Test.YtgiofdmedhhobaaZ8N
import Derived.Test.YtgiofdmedhhobaaZ6N
namespace Go.Proofs.Ytgiofdmedhhobaa
open Go.RowKit
set_option linter.unusedVariables false

theorem results_cellt {P : Program} {fn : Func} {p u1 : Tmp} {ty : TypeId} (h : fn.results = #[.cell p ty, .tmp u1]) (tmps : Array Value) (w : World) (g : Nat) (cs : Array Value) (d : TypeDesc)
    (hp : tmps.getD p undef = .pointer (some ⟨g, 0, none⟩)) (hg : Bx ty g cs w)
    (hu : P.underlying ty = some d) (hd : (match d with | .struct _ | .array _ _ => true | _ => false) = true) (hi : (P.info? ty).map (·.size) = some cs.size) :
    (results fn tmps).run P w = .ok (.tuple #[.agg cs, tmps.getD u1 undef]) w := by
  have hp' : tmps[p]?.getD undef = .pointer (some ⟨g, 0, none⟩) := by simpa using hp
  simp [results, h, hp', asAddr, run_loadVar_row w g ty ty cs (0, 0) d hg.blk hu hd hi]
theorem Bx.three {T : TypeId} {g : Nat} {w : World} {v0 v1 v2 : Value} (h : Bx T g #[v0, v1, v2] w) : (w.cell? ⟨g, 0, none⟩ = some v0 ∧ w.cell? ⟨g, 1, none⟩ = some v1 ∧ w.cell? ⟨g, 2, none⟩ = some v2) ∧
    (w.frozen? ⟨g, 0, none⟩ = false ∧ w.frozen? ⟨g, 1, none⟩ = false ∧ w.frozen? ⟨g, 2, none⟩ = false) :=
  ⟨⟨h.cell 0, h.cell 1, h.cell 2⟩, h.frozen 0, h.frozen 1, h.frozen 2⟩
def set3 (g : Nat) (v0 v1 v2 : Value) (w : World) : World := ((w.setCell ⟨g, 0, none⟩ v0).setCell ⟨g, 1, none⟩ v1).setCell ⟨g, 2, none⟩ v2
theorem set3_fold (g : Nat) (v0 v1 v2 : Value) (w : World) : ((w.setCell ⟨g, 0, none⟩ v0).setCell ⟨g, 1, none⟩ v1).setCell ⟨g, 2, none⟩ v2 = set3 g v0 v1 v2 w := rfl
theorem set3_but (g : Nat) (v0 v1 v2 : Value) (w : World) : But [g] w (set3 g v0 v1 v2 w) :=
  ((But.setCell ⟨g, 0, none⟩ _ (by simp)).then (But.setCell ⟨g, 1, none⟩ _ (by simp))).then (But.setCell ⟨g, 2, none⟩ _ (by simp))
theorem Bx.set3 {T : TypeId} {g : Nat} {w : World} {u0 u1 u2 : Value} (h : Bx T g #[u0, u1, u2] w) (v0 v1 v2 : Value) : Bx T g #[v0, v1, v2] (set3 g v0 v1 v2 w) := by
  have := ((h.set 0 v0).set 1 v1).set 2 v2
  rw [show ((((#[u0, u1, u2] : Array Value).setIfInBounds 0 v0).setIfInBounds 1 v1).setIfInBounds 2 v2) = #[v0, v1, v2] by simp] at this
  exact this
/-- A value and why there is none. -/
def VOut (r : VRes) (w : World) (e : Ending) (w' : World) : Prop := e = .returned (.tuple #[vv r.1.1 r.1.2.1 r.1.2.2, .int .i64 r.2]) ∧ Ev w w'
/-- The result's box as it is at first. -/
theorem vbox (w : World) : Bx 25 w.heap.size #[.int .i64 0, .int .i64 0, .string ⟨#[]⟩] (w.alloc (.cells #[.int .i64 0, .int .i64 0, .string ⟨#[]⟩] 25)) := Bx.new _ _ w

set_option maxRecDepth 100000 in
theorem ex_exact (n : Int) (b : Bool) (w : World) : Calls Try.prog 86 #[.int .i64 n, .bool b] w (VOut (if b then (vNum n, 0) else (v0, 26)) w) := by
  have HN := Lib.hid (fun w1 => value_num n w1)
  have hB := vbox w
  have hE := Ev.alloc w (.cells #[.int .i64 0, .int .i64 0, .string ⟨#[]⟩] 25)
  cases b with
  | false =>
    go_enter Try.func86, Try.ntmps86
    go_wp2
    (try simp only [Exit.inBlock, Exit.then])
    refine bodyPost_ret (results_cellt rfl _ _ _ _ _ rfl (Bx.new _ _ w) Try.underlying25 rfl Try.sizeVal) rfl ?_
    exact ⟨rfl, Ev.alloc _ _⟩
  | true =>
    obtain ⟨w0, hw0⟩ : ∃ w0, w.alloc (.cells #[.int .i64 0, .int .i64 0, .string ⟨#[]⟩] 25) = w0 := ⟨_, rfl⟩
    rw [hw0] at hB hE
    have HB := Lib.hid hB
    have HE := Lib.hid hE
    clear hB hE
    go_enter Try.func86, Try.ntmps86
    go_wp2_with (first | ((with_reducible refine (HN.out _).mono ?_); rintro e w1 ⟨rfl, hE1⟩; have B1 := HB.out.ev hE1; have E1 := HE.out.trans hE1; obtain ⟨⟨c0, c1, c2⟩, f0, f1, f2⟩ := B1.three))
    (try simp only [Exit.inBlock, Exit.then])
    rw [set3_fold]
    refine bodyPost_ret (results_cellt rfl _ _ _ _ _ rfl (B1.set3 _ _ _) Try.underlying25 rfl Try.sizeVal) rfl ?_
    exact ⟨rfl, E1.box (set3_but _ _ _ _ _) (Nat.le_refl _)⟩

set_option maxRecDepth 100000 in
theorem ex_truth (b : Bool) (w : World) : Calls Try.prog 72 #[.bool b] w (VOut (xTruth b) w) := by
  have HN := Lib.hid (fun n w1 => value_num n w1)
  have hB := vbox w
  have hE := Ev.alloc w (.cells #[.int .i64 0, .int .i64 0, .string ⟨#[]⟩] 25)
  obtain ⟨w0, hw0⟩ : ∃ w0, w.alloc (.cells #[.int .i64 0, .int .i64 0, .string ⟨#[]⟩] 25) = w0 := ⟨_, rfl⟩
  rw [hw0] at hB hE
  have HB := Lib.hid hB
  have HE := Lib.hid hE
  clear hB hE
  cases b <;> (
    go_enter Try.func72, Try.ntmps72
    go_wp2_with (first | ((with_reducible refine (HN.out _ _).mono ?_); rintro e w1 ⟨rfl, hE1⟩; have B1 := HB.out.ev hE1; have E1 := HE.out.trans hE1; obtain ⟨⟨c0, c1, c2⟩, f0, f1, f2⟩ := B1.three))
    (try simp only [Exit.inBlock, Exit.then])
    rw [set3_fold]
    refine bodyPost_ret (results_cellt rfl _ _ _ _ _ rfl (B1.set3 _ _ _) Try.underlying25 rfl Try.sizeVal) rfl ?_
    exact ⟨rfl, E1.box (set3_but _ _ _ _ _) (Nat.le_refl _)⟩)

/-- Numbers of 64 bits. -/
def i64R (n : Int) : Prop := -9223372036854775808 ≤ n ∧ n ≤ 9223372036854775807
instance (n : Int) : Decidable (i64R n) := by unfold i64R; infer_instance
theorem sum_test {a b : Int} (ha : i64R a) (hb : i64R b) : (decide (a < IntKind.i64.wrap (a + b)) == decide (0 < b)) = decide (i64R (a + b)) ∧ (i64R (a + b) → IntKind.i64.wrap (a + b) = a + b) := by
  constructor
  · rw [Bool.eq_iff_iff, beq_iff_eq, Bool.eq_iff_iff, decide_eq_true_iff, decide_eq_true_iff, decide_eq_true_iff]
    unfold i64R at *
    rw [IntKind.wrap_i64]
    omega
  · unfold i64R at *
    rw [IntKind.wrap_i64]
    omega
theorem dif_test {a b : Int} (ha : i64R a) (hb : i64R b) : (decide (IntKind.i64.wrap (a - b) < a) == decide (0 < b)) = decide (i64R (a - b)) ∧ (i64R (a - b) → IntKind.i64.wrap (a - b) = a - b) := by
  constructor
  · rw [Bool.eq_iff_iff, beq_iff_eq, Bool.eq_iff_iff, decide_eq_true_iff, decide_eq_true_iff, decide_eq_true_iff]
    unfold i64R at *
    rw [IntKind.wrap_i64]
    omega
  · unfold i64R at *
    rw [IntKind.wrap_i64]
    omega
theorem fit_of {n x : Int} (h : i64R x → n = x) : (if decide (i64R x) then (vNum n, (0 : Int)) else (v0, 26)) = xFit x := by
  unfold xFit
  by_cases hx : i64R x
  · have hx' : -9223372036854775808 ≤ x ∧ x ≤ 9223372036854775807 := hx
    rw [if_pos (by simpa using hx), if_pos hx', h hx]
  · have hx' : ¬ (-9223372036854775808 ≤ x ∧ x ≤ 9223372036854775807) := hx
    rw [if_neg (by simpa using hx), if_neg hx']

set_option maxRecDepth 100000 in
theorem ex_sum (a b : Int) (ha : i64R a) (hb : i64R b) (w : World) : Calls Try.prog 69 #[.int .i64 a, .int .i64 b] w (VOut (xFit (a + b)) w) := by
  obtain ⟨h1, h2⟩ := sum_test ha hb
  have HF0 := fit_of h2
  rw [← h1] at HF0
  obtain ⟨n, hn⟩ : ∃ n, IntKind.i64.wrap (a + b) = n := ⟨_, rfl⟩
  rw [hn] at HF0
  have HX := Lib.hid (fun (t : Bool) w1 => ex_exact n t w1)
  have hB := vbox w
  have hE := Ev.alloc w (.cells #[.int .i64 0, .int .i64 0, .string ⟨#[]⟩] 25)
  obtain ⟨w0, hw0⟩ : ∃ w0, w.alloc (.cells #[.int .i64 0, .int .i64 0, .string ⟨#[]⟩] 25) = w0 := ⟨_, rfl⟩
  rw [hw0] at hB hE
  have HB := Lib.hid hB
  have HE := Lib.hid hE
  clear hB hE h1 h2
  by_cases h3 : a < n <;> by_cases h4 : 0 < b <;> (
    simp [h3, h4] at HF0
    have HF := Lib.hid HF0
    clear HF0
    go_enter Try.func69, Try.ntmps69
    go_wp2_with (first | ((with_reducible refine (HX.out _ _).mono ?_); rintro e w1 ⟨rfl, hE1⟩; have B1 := HB.out.ev hE1; have E1 := HE.out.trans hE1; obtain ⟨⟨c0, c1, c2⟩, f0, f1, f2⟩ := B1.three))
    (try simp only [Exit.inBlock, Exit.then])
    rw [set3_fold]
    refine bodyPost_ret (results_cellt rfl _ _ _ _ _ rfl (B1.set3 _ _ _) Try.underlying25 rfl Try.sizeVal) rfl ?_
    exact ⟨by rw [← HF.out]; rfl, E1.box (set3_but _ _ _ _ _) (Nat.le_refl _)⟩)

set_option maxRecDepth 100000 in
theorem ex_dif (a b : Int) (ha : i64R a) (hb : i64R b) (w : World) : Calls Try.prog 70 #[.int .i64 a, .int .i64 b] w (VOut (xFit (a - b)) w) := by
  obtain ⟨h1, h2⟩ := dif_test ha hb
  have HF0 := fit_of h2
  rw [← h1] at HF0
  obtain ⟨n, hn⟩ : ∃ n, IntKind.i64.wrap (a - b) = n := ⟨_, rfl⟩
  rw [hn] at HF0
  have HX := Lib.hid (fun (t : Bool) w1 => ex_exact n t w1)
  have hB := vbox w
  have hE := Ev.alloc w (.cells #[.int .i64 0, .int .i64 0, .string ⟨#[]⟩] 25)
  obtain ⟨w0, hw0⟩ : ∃ w0, w.alloc (.cells #[.int .i64 0, .int .i64 0, .string ⟨#[]⟩] 25) = w0 := ⟨_, rfl⟩
  rw [hw0] at hB hE
  have HB := Lib.hid hB
  have HE := Lib.hid hE
  clear hB hE h1 h2
  by_cases h3 : n < a <;> by_cases h4 : 0 < b <;> (
    simp [h3, h4] at HF0
    have HF := Lib.hid HF0
    clear HF0
    go_enter Try.func70, Try.ntmps70
    go_wp2_with (first | ((with_reducible refine (HX.out _ _).mono ?_); rintro e w1 ⟨rfl, hE1⟩; have B1 := HB.out.ev hE1; have E1 := HE.out.trans hE1; obtain ⟨⟨c0, c1, c2⟩, f0, f1, f2⟩ := B1.three))
    (try simp only [Exit.inBlock, Exit.then])
    rw [set3_fold]
    refine bodyPost_ret (results_cellt rfl _ _ _ _ _ rfl (B1.set3 _ _ _) Try.underlying25 rfl Try.sizeVal) rfl ?_
    exact ⟨by rw [← HF.out]; rfl, E1.box (set3_but _ _ _ _ _) (Nat.le_refl _)⟩)

set_option maxRecDepth 100000 in
theorem ex_joined (a b : ByteArray) (ha : a.size ≤ 100000) (hb : b.size ≤ 100000) (w : World) : Calls Try.prog 74 #[.string a, .string b] w (VOut (if a.size + b.size ≤ 40 then (vStr (a ++ b), 0) else (v0, 3)) w) := by
  by_cases h : a.size + b.size ≤ 40
  · rw [if_pos h]
    have i1 : ¬ ((40 : Int) < (a.size : Int) + (b.size : Int)) := by omega
    have HN := Lib.hid (fun w1 => value_str (a ++ b) w1)
    have hB := vbox w
    have hE := Ev.alloc w (.cells #[.int .i64 0, .int .i64 0, .string ⟨#[]⟩] 25)
    obtain ⟨w0, hw0⟩ : ∃ w0, w.alloc (.cells #[.int .i64 0, .int .i64 0, .string ⟨#[]⟩] 25) = w0 := ⟨_, rfl⟩
    rw [hw0] at hB hE
    have HB := Lib.hid hB
    have HE := Lib.hid hE
    clear hB hE
    go_enter Try.func74, Try.ntmps74
    go_wp2_with (first | ((with_reducible refine (HN.out _).mono ?_); rintro e w1 ⟨rfl, hE1⟩; have B1 := HB.out.ev hE1; have E1 := HE.out.trans hE1; obtain ⟨⟨c0, c1, c2⟩, f0, f1, f2⟩ := B1.three))
    (try simp only [Exit.inBlock, Exit.then])
    rw [set3_fold]
    refine bodyPost_ret (results_cellt rfl _ _ _ _ _ rfl (B1.set3 _ _ _) Try.underlying25 rfl Try.sizeVal) rfl ?_
    exact ⟨rfl, E1.box (set3_but _ _ _ _ _) (Nat.le_refl _)⟩
  · rw [if_neg h]
    have i1 : (40 : Int) < (a.size : Int) + (b.size : Int) := by omega
    go_enter Try.func74, Try.ntmps74
    go_wp2
    (try simp only [Exit.inBlock, Exit.then])
    refine bodyPost_ret (results_cellt rfl _ _ _ _ _ rfl (Bx.new _ _ w) Try.underlying25 rfl Try.sizeVal) rfl ?_
    exact ⟨rfl, Ev.alloc _ _⟩
end Go.Proofs.Ytgiofdmedhhobaa

namespace Go.Proofs.Ytgiofdmedhhobaa
open Go.RowKit
set_option linter.unusedVariables false

theorem prod_test {a b : Int} (ha : i64R a) (hb : i64R b) (h0 : a ≠ 0) : (IntKind.i64.wrap ((IntKind.i64.wrap (a * b)).tdiv a) = b ∧ ¬ (a = -1 ∧ b = -9223372036854775808)) ↔ i64R (a * b) := by
  unfold i64R at *
  obtain ⟨p, hp⟩ : ∃ p, p = a * b := ⟨_, rfl⟩
  obtain ⟨n, hn⟩ : ∃ n, n = IntKind.i64.wrap p := ⟨_, rfl⟩
  rw [← hp, ← hn]
  have hnr : -9223372036854775808 ≤ n ∧ n ≤ 9223372036854775807 := by rw [hn, IntKind.wrap_i64]; omega
  have hnp : ∃ k : Int, n = p + k * 18446744073709551616 := by
    rw [hn, IntKind.wrap_i64]
    exact ⟨-((p + 9223372036854775808) / 18446744073709551616), by omega⟩
  have hdm := Int.mul_tdiv_add_tmod n a
  have hmod : (n.tmod a).natAbs < a.natAbs := by
    rw [Int.natAbs_tmod]
    exact Nat.mod_lt _ (by omega)
  obtain ⟨q, hq⟩ : ∃ q, q = n.tdiv a := ⟨_, rfl⟩
  obtain ⟨r, hr⟩ : ∃ r, r = n.tmod a := ⟨_, rfl⟩
  rw [← hq, ← hr] at hdm
  rw [← hr] at hmod
  rw [← hq]
  have hqr : (a = -1 ∧ n = -9223372036854775808) ∨ (-9223372036854775808 ≤ q ∧ q ≤ 9223372036854775807) := by
    have h1 : q.natAbs = n.natAbs / a.natAbs := by rw [hq, Int.natAbs_tdiv]; rfl
    by_cases h2 : a.natAbs = 1
    · rcases Int.natAbs_eq a with h3 | h3
      · right
        rw [h2] at h3
        simp at h3
        rw [h3] at hdm hmod
        omega
      · rw [h2] at h3
        simp at h3
        rw [h3] at hdm hmod
        by_cases h4 : n = -9223372036854775808
        · exact .inl ⟨h3, h4⟩
        · right; omega
    · right
      have h3 : n.natAbs / a.natAbs ≤ n.natAbs / 2 := Nat.div_le_div_left (by omega) (by omega)
      omega
  obtain ⟨k, hk⟩ := hnp
  constructor
  · rintro ⟨h1, h2⟩
    have hqb : q = b ∨ (a = -1 ∧ n = -9223372036854775808) := by
      rcases hqr with h3 | h3
      · exact .inr h3
      · left
        rw [IntWalk.i64_in q h3] at h1
        exact h1
    rcases hqb with rfl | ⟨h3, h4⟩
    · rw [← hp] at hdm
      have : k = 0 := by omega
      omega
    · exfalso
      apply h2
      refine ⟨h3, ?_⟩
      rw [h3] at hp
      omega
  · intro hR
    have hnp : n = p := by rw [hn, IntWalk.i64_in p hR]
    have hqb : q = b := by
      rw [hq, hnp, hp]
      exact Int.mul_tdiv_cancel_left b h0
    refine ⟨by rw [hqb]; exact IntWalk.i64_in b hb, ?_⟩
    rintro ⟨h1, h2⟩
    rw [h1, h2] at hp
    omega

set_option maxRecDepth 100000 in
set_option maxHeartbeats 800000 in
theorem ex_prod (a b : Int) (ha : i64R a) (hb : i64R b) (w : World) : Calls Try.prog 71 #[.int .i64 a, .int .i64 b] w (VOut (xFit (a * b)) w) := by
  have hfit := fun (h : i64R (a * b)) => (IntWalk.i64_in (a * b) h : IntKind.i64.wrap (a * b) = a * b)
  have HFIT := fit_of hfit
  have hpt := prod_test ha hb
  obtain ⟨n, hn⟩ : ∃ n, IntKind.i64.wrap (a * b) = n := ⟨_, rfl⟩
  rw [hn] at hpt HFIT
  have HX := Lib.hid (fun (t : Bool) w1 => ex_exact n t w1)
  have hB := vbox w
  have hE := Ev.alloc w (.cells #[.int .i64 0, .int .i64 0, .string ⟨#[]⟩] 25)
  obtain ⟨w0, hw0⟩ : ∃ w0, w.alloc (.cells #[.int .i64 0, .int .i64 0, .string ⟨#[]⟩] 25) = w0 := ⟨_, rfl⟩
  rw [hw0] at hB hE
  have HB := Lib.hid hB
  have HE := Lib.hid hE
  clear hB hE hfit
  by_cases h0 : a = 0
  · have hR : i64R (a * b) := by rw [h0]; unfold i64R; omega
    have e0 : (a == 0) = true := beq_iff_eq.2 h0
    rw [decide_eq_true hR] at HFIT
    have HF := Lib.hid HFIT
    clear hpt HFIT hR h0
    go_enter Try.func71, Try.ntmps71
    go_wp2_with (first | ((with_reducible refine (HX.out _ _).mono ?_); rintro e w1 ⟨rfl, hE1⟩; have B1 := HB.out.ev hE1; have E1 := HE.out.trans hE1; obtain ⟨⟨c0, c1, c2⟩, f0, f1, f2⟩ := B1.three))
    (try simp only [Exit.inBlock, Exit.then])
    rw [set3_fold]
    refine bodyPost_ret (results_cellt rfl _ _ _ _ _ rfl (B1.set3 _ _ _) Try.underlying25 rfl Try.sizeVal) rfl ?_
    exact ⟨by rw [← HF.out]; rfl, E1.box (set3_but _ _ _ _ _) (Nat.le_refl _)⟩
  · have h0' : (a == 0) = false := beq_eq_false_iff_ne.2 h0
    have hpt := hpt h0
    obtain ⟨d, hd⟩ : ∃ d, IntKind.i64.wrap (n.tdiv a) = d := ⟨_, rfl⟩
    rw [hd] at hpt
    by_cases hdb : d = b
    · subst hdb
      by_cases h1 : a = -1
      · by_cases h2 : d = -9223372036854775808
        · rw [decide_eq_false (fun h => (hpt.2 h).2 ⟨h1, h2⟩)] at HFIT
          have HF := Lib.hid HFIT
          have e1 : (a == -1) = true := beq_iff_eq.2 h1
          have e2 : (d == -9223372036854775808) = true := beq_iff_eq.2 h2
          clear hpt HFIT h1 h2
          go_enter Try.func71, Try.ntmps71
          go_wp2_with (first | ((with_reducible refine (HX.out _ _).mono ?_); rintro e w1 ⟨rfl, hE1⟩; have B1 := HB.out.ev hE1; have E1 := HE.out.trans hE1; obtain ⟨⟨c0, c1, c2⟩, f0, f1, f2⟩ := B1.three))
          (try simp only [Exit.inBlock, Exit.then])
          rw [set3_fold]
          refine bodyPost_ret (results_cellt rfl _ _ _ _ _ rfl (B1.set3 _ _ _) Try.underlying25 rfl Try.sizeVal) rfl ?_
          exact ⟨by rw [← HF.out]; rfl, E1.box (set3_but _ _ _ _ _) (Nat.le_refl _)⟩
        · have h2' : (d == -9223372036854775808) = false := beq_eq_false_iff_ne.2 h2
          rw [decide_eq_true (hpt.1 ⟨rfl, fun h => h2 h.2⟩)] at HFIT
          have HF := Lib.hid HFIT
          have e1 : (a == -1) = true := beq_iff_eq.2 h1
          clear hpt HFIT h1
          go_enter Try.func71, Try.ntmps71
          go_wp2_with (first | ((with_reducible refine (HX.out _ _).mono ?_); rintro e w1 ⟨rfl, hE1⟩; have B1 := HB.out.ev hE1; have E1 := HE.out.trans hE1; obtain ⟨⟨c0, c1, c2⟩, f0, f1, f2⟩ := B1.three))
          (try simp only [Exit.inBlock, Exit.then])
          rw [set3_fold]
          refine bodyPost_ret (results_cellt rfl _ _ _ _ _ rfl (B1.set3 _ _ _) Try.underlying25 rfl Try.sizeVal) rfl ?_
          exact ⟨by rw [← HF.out]; rfl, E1.box (set3_but _ _ _ _ _) (Nat.le_refl _)⟩
      · have h1' : (a == -1) = false := beq_eq_false_iff_ne.2 h1
        rw [decide_eq_true (hpt.1 ⟨rfl, fun h => h1 h.1⟩)] at HFIT
        have HF := Lib.hid HFIT
        clear hpt HFIT
        go_enter Try.func71, Try.ntmps71
        go_wp2_with (first | ((with_reducible refine (HX.out _ _).mono ?_); rintro e w1 ⟨rfl, hE1⟩; have B1 := HB.out.ev hE1; have E1 := HE.out.trans hE1; obtain ⟨⟨c0, c1, c2⟩, f0, f1, f2⟩ := B1.three))
        (try simp only [Exit.inBlock, Exit.then])
        rw [set3_fold]
        refine bodyPost_ret (results_cellt rfl _ _ _ _ _ rfl (B1.set3 _ _ _) Try.underlying25 rfl Try.sizeVal) rfl ?_
        exact ⟨by rw [← HF.out]; rfl, E1.box (set3_but _ _ _ _ _) (Nat.le_refl _)⟩
    · have hdb' : (d == b) = false := beq_eq_false_iff_ne.2 hdb
      rw [decide_eq_false (fun h => hdb (hpt.2 h).1)] at HFIT
      have HF := Lib.hid HFIT
      clear hpt HFIT
      go_enter Try.func71, Try.ntmps71
      go_wp2_with (first | ((with_reducible refine (HX.out _ _).mono ?_); rintro e w1 ⟨rfl, hE1⟩; have B1 := HB.out.ev hE1; have E1 := HE.out.trans hE1; obtain ⟨⟨c0, c1, c2⟩, f0, f1, f2⟩ := B1.three))
      (try simp only [Exit.inBlock, Exit.then])
      rw [set3_fold]
      refine bodyPost_ret (results_cellt rfl _ _ _ _ _ rfl (B1.set3 _ _ _) Try.underlying25 rfl Try.sizeVal) rfl ?_
      exact ⟨by rw [← HF.out]; rfl, E1.box (set3_but _ _ _ _ _) (Nat.le_refl _)⟩
end Go.Proofs.Ytgiofdmedhhobaa

namespace Go.Proofs.Ytgiofdmedhhobaa
open Go.RowKit
set_option linter.unusedVariables false

set_option maxRecDepth 100000 in
set_option maxHeartbeats 1600000 in
theorem ex_add (k n : Int) (s : ByteArray) (k2 n2 : Int) (s2 : ByteArray) (hn : i64R n) (hn2 : i64R n2) (hs : s.size ≤ 100000) (hs2 : s2.size ≤ 100000) (w : World) :
    Calls Try.prog 56 #[.string (bstr bAdd), vv k n s, vv k2 n2 s2] w (VOut (xFit (n + n2)) w) := by
  have HC := Lib.hid (fun w1 => ex_sum n n2 hn hn2 w1)
  unfold vv bstr bAdd
  have hE0 : Ev w (((w.alloc (.cells #[.int .i64 k, .int .i64 n, .string s] 25)).alloc (.cells #[.int .i64 k2, .int .i64 n2, .string s2] 25)).alloc (.cells #[.int .i64 0, .int .i64 0, .string ⟨#[]⟩] 25)) := ((Ev.alloc _ _).trans (Ev.alloc _ _)).trans (Ev.alloc _ _)
  have hX1 : Bx 25 w.heap.size #[.int .i64 k, .int .i64 n, .string s] (((w.alloc (.cells #[.int .i64 k, .int .i64 n, .string s] 25)).alloc (.cells #[.int .i64 k2, .int .i64 n2, .string s2] 25)).alloc (.cells #[.int .i64 0, .int .i64 0, .string ⟨#[]⟩] 25)) := (Bx.new _ _ w).ev ((Ev.alloc _ _).trans (Ev.alloc _ _))
  have hX2 : Bx 25 (w.heap.size + 1) #[.int .i64 k2, .int .i64 n2, .string s2] (((w.alloc (.cells #[.int .i64 k, .int .i64 n, .string s] 25)).alloc (.cells #[.int .i64 k2, .int .i64 n2, .string s2] 25)).alloc (.cells #[.int .i64 0, .int .i64 0, .string ⟨#[]⟩] 25)) := by
    have := (Bx.new 25 #[.int .i64 k2, .int .i64 n2, .string s2] (w.alloc (.cells #[.int .i64 k, .int .i64 n, .string s] 25))).ev (Ev.alloc _ (.cells #[.int .i64 0, .int .i64 0, .string ⟨#[]⟩] 25))
    simpa using this
  have hB : Bx 25 (w.heap.size + 1 + 1) #[.int .i64 0, .int .i64 0, .string ⟨#[]⟩] (((w.alloc (.cells #[.int .i64 k, .int .i64 n, .string s] 25)).alloc (.cells #[.int .i64 k2, .int .i64 n2, .string s2] 25)).alloc (.cells #[.int .i64 0, .int .i64 0, .string ⟨#[]⟩] 25)) := by
    have := Bx.new 25 #[.int .i64 0, .int .i64 0, .string ⟨#[]⟩] ((w.alloc (.cells #[.int .i64 k, .int .i64 n, .string s] 25)).alloc (.cells #[.int .i64 k2, .int .i64 n2, .string s2] 25))
    simpa using this
  obtain ⟨wz, hwz⟩ : ∃ wz, ((w.alloc (.cells #[.int .i64 k, .int .i64 n, .string s] 25)).alloc (.cells #[.int .i64 k2, .int .i64 n2, .string s2] 25)).alloc (.cells #[.int .i64 0, .int .i64 0, .string ⟨#[]⟩] 25) = wz := ⟨_, rfl⟩
  rw [hwz] at hE0 hX1 hX2 hB
  obtain ⟨⟨x0, x1, x2⟩, _⟩ := hX1.three
  obtain ⟨⟨y0, y1, y2⟩, _⟩ := hX2.three
  have HB := Lib.hid hB
  have HE := Lib.hid hE0
  have HX1 := Lib.hid hX1
  have HX2 := Lib.hid hX2
  clear hB hE0 hX1 hX2
  · go_enter Try.func56, Try.ntmps56
    go_wp2_with (first
      | ((with_reducible refine (HC.out _).mono ?_); rintro e w1 ⟨rfl, hE1⟩; have B1 := HB.out.ev hE1; have E1 := HE.out.trans hE1; obtain ⟨⟨c0, c1, c2⟩, f0, f1, f2⟩ := B1.three))
    (try simp only [Exit.inBlock, Exit.then])
    rw [set3_fold]
    refine bodyPost_ret (results_cellt rfl _ _ _ _ _ rfl (B1.set3 _ _ _) Try.underlying25 rfl Try.sizeVal) rfl ?_
    exact ⟨rfl, E1.box (set3_but _ _ _ _ _) (by omega)⟩

set_option maxRecDepth 100000 in
set_option maxHeartbeats 1600000 in
theorem ex_sub (k n : Int) (s : ByteArray) (k2 n2 : Int) (s2 : ByteArray) (hn : i64R n) (hn2 : i64R n2) (hs : s.size ≤ 100000) (hs2 : s2.size ≤ 100000) (w : World) :
    Calls Try.prog 56 #[.string (bstr bSub), vv k n s, vv k2 n2 s2] w (VOut (xFit (n - n2)) w) := by
  have HC := Lib.hid (fun w1 => ex_dif n n2 hn hn2 w1)
  unfold vv bstr bSub
  have hE0 : Ev w (((w.alloc (.cells #[.int .i64 k, .int .i64 n, .string s] 25)).alloc (.cells #[.int .i64 k2, .int .i64 n2, .string s2] 25)).alloc (.cells #[.int .i64 0, .int .i64 0, .string ⟨#[]⟩] 25)) := ((Ev.alloc _ _).trans (Ev.alloc _ _)).trans (Ev.alloc _ _)
  have hX1 : Bx 25 w.heap.size #[.int .i64 k, .int .i64 n, .string s] (((w.alloc (.cells #[.int .i64 k, .int .i64 n, .string s] 25)).alloc (.cells #[.int .i64 k2, .int .i64 n2, .string s2] 25)).alloc (.cells #[.int .i64 0, .int .i64 0, .string ⟨#[]⟩] 25)) := (Bx.new _ _ w).ev ((Ev.alloc _ _).trans (Ev.alloc _ _))
  have hX2 : Bx 25 (w.heap.size + 1) #[.int .i64 k2, .int .i64 n2, .string s2] (((w.alloc (.cells #[.int .i64 k, .int .i64 n, .string s] 25)).alloc (.cells #[.int .i64 k2, .int .i64 n2, .string s2] 25)).alloc (.cells #[.int .i64 0, .int .i64 0, .string ⟨#[]⟩] 25)) := by
    have := (Bx.new 25 #[.int .i64 k2, .int .i64 n2, .string s2] (w.alloc (.cells #[.int .i64 k, .int .i64 n, .string s] 25))).ev (Ev.alloc _ (.cells #[.int .i64 0, .int .i64 0, .string ⟨#[]⟩] 25))
    simpa using this
  have hB : Bx 25 (w.heap.size + 1 + 1) #[.int .i64 0, .int .i64 0, .string ⟨#[]⟩] (((w.alloc (.cells #[.int .i64 k, .int .i64 n, .string s] 25)).alloc (.cells #[.int .i64 k2, .int .i64 n2, .string s2] 25)).alloc (.cells #[.int .i64 0, .int .i64 0, .string ⟨#[]⟩] 25)) := by
    have := Bx.new 25 #[.int .i64 0, .int .i64 0, .string ⟨#[]⟩] ((w.alloc (.cells #[.int .i64 k, .int .i64 n, .string s] 25)).alloc (.cells #[.int .i64 k2, .int .i64 n2, .string s2] 25))
    simpa using this
  obtain ⟨wz, hwz⟩ : ∃ wz, ((w.alloc (.cells #[.int .i64 k, .int .i64 n, .string s] 25)).alloc (.cells #[.int .i64 k2, .int .i64 n2, .string s2] 25)).alloc (.cells #[.int .i64 0, .int .i64 0, .string ⟨#[]⟩] 25) = wz := ⟨_, rfl⟩
  rw [hwz] at hE0 hX1 hX2 hB
  obtain ⟨⟨x0, x1, x2⟩, _⟩ := hX1.three
  obtain ⟨⟨y0, y1, y2⟩, _⟩ := hX2.three
  have HB := Lib.hid hB
  have HE := Lib.hid hE0
  have HX1 := Lib.hid hX1
  have HX2 := Lib.hid hX2
  clear hB hE0 hX1 hX2
  · go_enter Try.func56, Try.ntmps56
    go_wp2_with (first
      | ((with_reducible refine (HC.out _).mono ?_); rintro e w1 ⟨rfl, hE1⟩; have B1 := HB.out.ev hE1; have E1 := HE.out.trans hE1; obtain ⟨⟨c0, c1, c2⟩, f0, f1, f2⟩ := B1.three))
    (try simp only [Exit.inBlock, Exit.then])
    rw [set3_fold]
    refine bodyPost_ret (results_cellt rfl _ _ _ _ _ rfl (B1.set3 _ _ _) Try.underlying25 rfl Try.sizeVal) rfl ?_
    exact ⟨rfl, E1.box (set3_but _ _ _ _ _) (by omega)⟩

set_option maxRecDepth 100000 in
set_option maxHeartbeats 1600000 in
theorem ex_mul (k n : Int) (s : ByteArray) (k2 n2 : Int) (s2 : ByteArray) (hn : i64R n) (hn2 : i64R n2) (hs : s.size ≤ 100000) (hs2 : s2.size ≤ 100000) (w : World) :
    Calls Try.prog 56 #[.string (bstr bMul), vv k n s, vv k2 n2 s2] w (VOut (xFit (n * n2)) w) := by
  have HC := Lib.hid (fun w1 => ex_prod n n2 hn hn2 w1)
  unfold vv bstr bMul
  have hE0 : Ev w (((w.alloc (.cells #[.int .i64 k, .int .i64 n, .string s] 25)).alloc (.cells #[.int .i64 k2, .int .i64 n2, .string s2] 25)).alloc (.cells #[.int .i64 0, .int .i64 0, .string ⟨#[]⟩] 25)) := ((Ev.alloc _ _).trans (Ev.alloc _ _)).trans (Ev.alloc _ _)
  have hX1 : Bx 25 w.heap.size #[.int .i64 k, .int .i64 n, .string s] (((w.alloc (.cells #[.int .i64 k, .int .i64 n, .string s] 25)).alloc (.cells #[.int .i64 k2, .int .i64 n2, .string s2] 25)).alloc (.cells #[.int .i64 0, .int .i64 0, .string ⟨#[]⟩] 25)) := (Bx.new _ _ w).ev ((Ev.alloc _ _).trans (Ev.alloc _ _))
  have hX2 : Bx 25 (w.heap.size + 1) #[.int .i64 k2, .int .i64 n2, .string s2] (((w.alloc (.cells #[.int .i64 k, .int .i64 n, .string s] 25)).alloc (.cells #[.int .i64 k2, .int .i64 n2, .string s2] 25)).alloc (.cells #[.int .i64 0, .int .i64 0, .string ⟨#[]⟩] 25)) := by
    have := (Bx.new 25 #[.int .i64 k2, .int .i64 n2, .string s2] (w.alloc (.cells #[.int .i64 k, .int .i64 n, .string s] 25))).ev (Ev.alloc _ (.cells #[.int .i64 0, .int .i64 0, .string ⟨#[]⟩] 25))
    simpa using this
  have hB : Bx 25 (w.heap.size + 1 + 1) #[.int .i64 0, .int .i64 0, .string ⟨#[]⟩] (((w.alloc (.cells #[.int .i64 k, .int .i64 n, .string s] 25)).alloc (.cells #[.int .i64 k2, .int .i64 n2, .string s2] 25)).alloc (.cells #[.int .i64 0, .int .i64 0, .string ⟨#[]⟩] 25)) := by
    have := Bx.new 25 #[.int .i64 0, .int .i64 0, .string ⟨#[]⟩] ((w.alloc (.cells #[.int .i64 k, .int .i64 n, .string s] 25)).alloc (.cells #[.int .i64 k2, .int .i64 n2, .string s2] 25))
    simpa using this
  obtain ⟨wz, hwz⟩ : ∃ wz, ((w.alloc (.cells #[.int .i64 k, .int .i64 n, .string s] 25)).alloc (.cells #[.int .i64 k2, .int .i64 n2, .string s2] 25)).alloc (.cells #[.int .i64 0, .int .i64 0, .string ⟨#[]⟩] 25) = wz := ⟨_, rfl⟩
  rw [hwz] at hE0 hX1 hX2 hB
  obtain ⟨⟨x0, x1, x2⟩, _⟩ := hX1.three
  obtain ⟨⟨y0, y1, y2⟩, _⟩ := hX2.three
  have HB := Lib.hid hB
  have HE := Lib.hid hE0
  have HX1 := Lib.hid hX1
  have HX2 := Lib.hid hX2
  clear hB hE0 hX1 hX2
  · go_enter Try.func56, Try.ntmps56
    go_wp2_with (first
      | ((with_reducible refine (HC.out _).mono ?_); rintro e w1 ⟨rfl, hE1⟩; have B1 := HB.out.ev hE1; have E1 := HE.out.trans hE1; obtain ⟨⟨c0, c1, c2⟩, f0, f1, f2⟩ := B1.three))
    (try simp only [Exit.inBlock, Exit.then])
    rw [set3_fold]
    refine bodyPost_ret (results_cellt rfl _ _ _ _ _ rfl (B1.set3 _ _ _) Try.underlying25 rfl Try.sizeVal) rfl ?_
    exact ⟨rfl, E1.box (set3_but _ _ _ _ _) (by omega)⟩

set_option maxRecDepth 100000 in
set_option maxHeartbeats 1600000 in
theorem ex_neg (k n : Int) (s : ByteArray) (k2 n2 : Int) (s2 : ByteArray) (hn : i64R n) (hn2 : i64R n2) (hs : s.size ≤ 100000) (hs2 : s2.size ≤ 100000) (w : World) :
    Calls Try.prog 56 #[.string (bstr bNeg), vv k n s, vv k2 n2 s2] w (VOut (xFit (-n)) w) := by
  have HC := fun w1 => ex_dif 0 n (by unfold i64R; omega) hn w1
  rw [Int.zero_sub] at HC
  have HC := Lib.hid HC
  unfold vv bstr bNeg
  have hE0 : Ev w (((w.alloc (.cells #[.int .i64 k, .int .i64 n, .string s] 25)).alloc (.cells #[.int .i64 k2, .int .i64 n2, .string s2] 25)).alloc (.cells #[.int .i64 0, .int .i64 0, .string ⟨#[]⟩] 25)) := ((Ev.alloc _ _).trans (Ev.alloc _ _)).trans (Ev.alloc _ _)
  have hX1 : Bx 25 w.heap.size #[.int .i64 k, .int .i64 n, .string s] (((w.alloc (.cells #[.int .i64 k, .int .i64 n, .string s] 25)).alloc (.cells #[.int .i64 k2, .int .i64 n2, .string s2] 25)).alloc (.cells #[.int .i64 0, .int .i64 0, .string ⟨#[]⟩] 25)) := (Bx.new _ _ w).ev ((Ev.alloc _ _).trans (Ev.alloc _ _))
  have hX2 : Bx 25 (w.heap.size + 1) #[.int .i64 k2, .int .i64 n2, .string s2] (((w.alloc (.cells #[.int .i64 k, .int .i64 n, .string s] 25)).alloc (.cells #[.int .i64 k2, .int .i64 n2, .string s2] 25)).alloc (.cells #[.int .i64 0, .int .i64 0, .string ⟨#[]⟩] 25)) := by
    have := (Bx.new 25 #[.int .i64 k2, .int .i64 n2, .string s2] (w.alloc (.cells #[.int .i64 k, .int .i64 n, .string s] 25))).ev (Ev.alloc _ (.cells #[.int .i64 0, .int .i64 0, .string ⟨#[]⟩] 25))
    simpa using this
  have hB : Bx 25 (w.heap.size + 1 + 1) #[.int .i64 0, .int .i64 0, .string ⟨#[]⟩] (((w.alloc (.cells #[.int .i64 k, .int .i64 n, .string s] 25)).alloc (.cells #[.int .i64 k2, .int .i64 n2, .string s2] 25)).alloc (.cells #[.int .i64 0, .int .i64 0, .string ⟨#[]⟩] 25)) := by
    have := Bx.new 25 #[.int .i64 0, .int .i64 0, .string ⟨#[]⟩] ((w.alloc (.cells #[.int .i64 k, .int .i64 n, .string s] 25)).alloc (.cells #[.int .i64 k2, .int .i64 n2, .string s2] 25))
    simpa using this
  obtain ⟨wz, hwz⟩ : ∃ wz, ((w.alloc (.cells #[.int .i64 k, .int .i64 n, .string s] 25)).alloc (.cells #[.int .i64 k2, .int .i64 n2, .string s2] 25)).alloc (.cells #[.int .i64 0, .int .i64 0, .string ⟨#[]⟩] 25) = wz := ⟨_, rfl⟩
  rw [hwz] at hE0 hX1 hX2 hB
  obtain ⟨⟨x0, x1, x2⟩, _⟩ := hX1.three
  obtain ⟨⟨y0, y1, y2⟩, _⟩ := hX2.three
  have HB := Lib.hid hB
  have HE := Lib.hid hE0
  have HX1 := Lib.hid hX1
  have HX2 := Lib.hid hX2
  clear hB hE0 hX1 hX2
  · go_enter Try.func56, Try.ntmps56
    go_wp2_with (first
      | ((with_reducible refine (HC.out _).mono ?_); rintro e w1 ⟨rfl, hE1⟩; have B1 := HB.out.ev hE1; have E1 := HE.out.trans hE1; obtain ⟨⟨c0, c1, c2⟩, f0, f1, f2⟩ := B1.three))
    (try simp only [Exit.inBlock, Exit.then])
    rw [set3_fold]
    refine bodyPost_ret (results_cellt rfl _ _ _ _ _ rfl (B1.set3 _ _ _) Try.underlying25 rfl Try.sizeVal) rfl ?_
    exact ⟨rfl, E1.box (set3_but _ _ _ _ _) (by omega)⟩

set_option maxRecDepth 100000 in
set_option maxHeartbeats 1600000 in
theorem ex_eq (k n : Int) (s : ByteArray) (k2 n2 : Int) (s2 : ByteArray) (hn : i64R n) (hn2 : i64R n2) (hs : s.size ≤ 100000) (hs2 : s2.size ≤ 100000) (w : World) :
    Calls Try.prog 56 #[.string (bstr bEq), vv k n s, vv k2 n2 s2] w (VOut (xTruth (!lessV k n s k2 n2 s2 && !lessV k2 n2 s2 k n s)) w) := by
  have HL := fun w1 => value_less k n s k2 n2 s2 w1
  have HL2 := fun w1 => value_less k2 n2 s2 k n s w1
  have HT := Lib.hid (fun b w1 => ex_truth b w1)
  unfold vv bstr bEq
  have hE0 : Ev w (((w.alloc (.cells #[.int .i64 k, .int .i64 n, .string s] 25)).alloc (.cells #[.int .i64 k2, .int .i64 n2, .string s2] 25)).alloc (.cells #[.int .i64 0, .int .i64 0, .string ⟨#[]⟩] 25)) := ((Ev.alloc _ _).trans (Ev.alloc _ _)).trans (Ev.alloc _ _)
  have hX1 : Bx 25 w.heap.size #[.int .i64 k, .int .i64 n, .string s] (((w.alloc (.cells #[.int .i64 k, .int .i64 n, .string s] 25)).alloc (.cells #[.int .i64 k2, .int .i64 n2, .string s2] 25)).alloc (.cells #[.int .i64 0, .int .i64 0, .string ⟨#[]⟩] 25)) := (Bx.new _ _ w).ev ((Ev.alloc _ _).trans (Ev.alloc _ _))
  have hX2 : Bx 25 (w.heap.size + 1) #[.int .i64 k2, .int .i64 n2, .string s2] (((w.alloc (.cells #[.int .i64 k, .int .i64 n, .string s] 25)).alloc (.cells #[.int .i64 k2, .int .i64 n2, .string s2] 25)).alloc (.cells #[.int .i64 0, .int .i64 0, .string ⟨#[]⟩] 25)) := by
    have := (Bx.new 25 #[.int .i64 k2, .int .i64 n2, .string s2] (w.alloc (.cells #[.int .i64 k, .int .i64 n, .string s] 25))).ev (Ev.alloc _ (.cells #[.int .i64 0, .int .i64 0, .string ⟨#[]⟩] 25))
    simpa using this
  have hB : Bx 25 (w.heap.size + 1 + 1) #[.int .i64 0, .int .i64 0, .string ⟨#[]⟩] (((w.alloc (.cells #[.int .i64 k, .int .i64 n, .string s] 25)).alloc (.cells #[.int .i64 k2, .int .i64 n2, .string s2] 25)).alloc (.cells #[.int .i64 0, .int .i64 0, .string ⟨#[]⟩] 25)) := by
    have := Bx.new 25 #[.int .i64 0, .int .i64 0, .string ⟨#[]⟩] ((w.alloc (.cells #[.int .i64 k, .int .i64 n, .string s] 25)).alloc (.cells #[.int .i64 k2, .int .i64 n2, .string s2] 25))
    simpa using this
  obtain ⟨wz, hwz⟩ : ∃ wz, ((w.alloc (.cells #[.int .i64 k, .int .i64 n, .string s] 25)).alloc (.cells #[.int .i64 k2, .int .i64 n2, .string s2] 25)).alloc (.cells #[.int .i64 0, .int .i64 0, .string ⟨#[]⟩] 25) = wz := ⟨_, rfl⟩
  rw [hwz] at hE0 hX1 hX2 hB
  obtain ⟨⟨x0, x1, x2⟩, _⟩ := hX1.three
  obtain ⟨⟨y0, y1, y2⟩, _⟩ := hX2.three
  have HB := Lib.hid hB
  have HE := Lib.hid hE0
  have HX1 := Lib.hid hX1
  have HX2 := Lib.hid hX2
  clear hB hE0 hX1 hX2
  generalize hg1 : lessV k n s k2 n2 s2 = l1 at *
  generalize hg2 : lessV k2 n2 s2 k n s = l2 at *
  clear hg1 hg2
  have HL := Lib.hid HL
  have HL2 := Lib.hid HL2
  cases l1
  · go_enter Try.func56, Try.ntmps56
    go_wp2_with (first
      | ((with_reducible refine (HL.out _).mono ?_); rintro e w1 ⟨rfl, hE1⟩; have HBn := Lib.hid (HB.out.ev hE1); have HEn := Lib.hid (HE.out.trans hE1); have HXn := Lib.hid (HX1.out.ev hE1); have HYn := Lib.hid (HX2.out.ev hE1); clear HB HE HX1 HX2; have HB := HBn; have HE := HEn; have HX1 := HXn; have HX2 := HYn; clear HBn HEn HXn HYn; obtain ⟨⟨x0, x1, x2⟩, _⟩ := HX1.out.three; obtain ⟨⟨y0, y1, y2⟩, _⟩ := HX2.out.three)
      | ((with_reducible refine (HL2.out _).mono ?_); rintro e w1 ⟨rfl, hE1⟩; have HBn := Lib.hid (HB.out.ev hE1); have HEn := Lib.hid (HE.out.trans hE1); have HXn := Lib.hid (HX1.out.ev hE1); have HYn := Lib.hid (HX2.out.ev hE1); clear HB HE HX1 HX2; have HB := HBn; have HE := HEn; have HX1 := HXn; have HX2 := HYn; clear HBn HEn HXn HYn; obtain ⟨⟨x0, x1, x2⟩, _⟩ := HX1.out.three; obtain ⟨⟨y0, y1, y2⟩, _⟩ := HX2.out.three)
      | ((with_reducible refine (HT.out _ _).mono ?_); rintro e w1 ⟨rfl, hE1⟩; have B1 := HB.out.ev hE1; have E1 := HE.out.trans hE1; obtain ⟨⟨c0, c1, c2⟩, f0, f1, f2⟩ := B1.three))
    (try simp only [Exit.inBlock, Exit.then])
    rw [set3_fold]
    refine bodyPost_ret (results_cellt rfl _ _ _ _ _ rfl (B1.set3 _ _ _) Try.underlying25 rfl Try.sizeVal) rfl ?_
    exact ⟨rfl, E1.box (set3_but _ _ _ _ _) (by omega)⟩
  · go_enter Try.func56, Try.ntmps56
    go_wp2_with (first
      | ((with_reducible refine (HL.out _).mono ?_); rintro e w1 ⟨rfl, hE1⟩; have HBn := Lib.hid (HB.out.ev hE1); have HEn := Lib.hid (HE.out.trans hE1); have HXn := Lib.hid (HX1.out.ev hE1); have HYn := Lib.hid (HX2.out.ev hE1); clear HB HE HX1 HX2; have HB := HBn; have HE := HEn; have HX1 := HXn; have HX2 := HYn; clear HBn HEn HXn HYn; obtain ⟨⟨x0, x1, x2⟩, _⟩ := HX1.out.three; obtain ⟨⟨y0, y1, y2⟩, _⟩ := HX2.out.three)
      | ((with_reducible refine (HT.out _ _).mono ?_); rintro e w1 ⟨rfl, hE1⟩; have B1 := HB.out.ev hE1; have E1 := HE.out.trans hE1; obtain ⟨⟨c0, c1, c2⟩, f0, f1, f2⟩ := B1.three))
    (try simp only [Exit.inBlock, Exit.then])
    rw [set3_fold]
    refine bodyPost_ret (results_cellt rfl _ _ _ _ _ rfl (B1.set3 _ _ _) Try.underlying25 rfl Try.sizeVal) rfl ?_
    exact ⟨rfl, E1.box (set3_but _ _ _ _ _) (by omega)⟩

set_option maxRecDepth 100000 in
set_option maxHeartbeats 1600000 in
theorem ex_lt (k n : Int) (s : ByteArray) (k2 n2 : Int) (s2 : ByteArray) (hn : i64R n) (hn2 : i64R n2) (hs : s.size ≤ 100000) (hs2 : s2.size ≤ 100000) (w : World) :
    Calls Try.prog 56 #[.string (bstr bLt), vv k n s, vv k2 n2 s2] w (VOut (xTruth (lessV k n s k2 n2 s2)) w) := by
  have HL := Lib.hid (fun w1 => value_less k n s k2 n2 s2 w1)
  have HT := Lib.hid (fun b w1 => ex_truth b w1)
  unfold vv bstr bLt
  have hE0 : Ev w (((w.alloc (.cells #[.int .i64 k, .int .i64 n, .string s] 25)).alloc (.cells #[.int .i64 k2, .int .i64 n2, .string s2] 25)).alloc (.cells #[.int .i64 0, .int .i64 0, .string ⟨#[]⟩] 25)) := ((Ev.alloc _ _).trans (Ev.alloc _ _)).trans (Ev.alloc _ _)
  have hX1 : Bx 25 w.heap.size #[.int .i64 k, .int .i64 n, .string s] (((w.alloc (.cells #[.int .i64 k, .int .i64 n, .string s] 25)).alloc (.cells #[.int .i64 k2, .int .i64 n2, .string s2] 25)).alloc (.cells #[.int .i64 0, .int .i64 0, .string ⟨#[]⟩] 25)) := (Bx.new _ _ w).ev ((Ev.alloc _ _).trans (Ev.alloc _ _))
  have hX2 : Bx 25 (w.heap.size + 1) #[.int .i64 k2, .int .i64 n2, .string s2] (((w.alloc (.cells #[.int .i64 k, .int .i64 n, .string s] 25)).alloc (.cells #[.int .i64 k2, .int .i64 n2, .string s2] 25)).alloc (.cells #[.int .i64 0, .int .i64 0, .string ⟨#[]⟩] 25)) := by
    have := (Bx.new 25 #[.int .i64 k2, .int .i64 n2, .string s2] (w.alloc (.cells #[.int .i64 k, .int .i64 n, .string s] 25))).ev (Ev.alloc _ (.cells #[.int .i64 0, .int .i64 0, .string ⟨#[]⟩] 25))
    simpa using this
  have hB : Bx 25 (w.heap.size + 1 + 1) #[.int .i64 0, .int .i64 0, .string ⟨#[]⟩] (((w.alloc (.cells #[.int .i64 k, .int .i64 n, .string s] 25)).alloc (.cells #[.int .i64 k2, .int .i64 n2, .string s2] 25)).alloc (.cells #[.int .i64 0, .int .i64 0, .string ⟨#[]⟩] 25)) := by
    have := Bx.new 25 #[.int .i64 0, .int .i64 0, .string ⟨#[]⟩] ((w.alloc (.cells #[.int .i64 k, .int .i64 n, .string s] 25)).alloc (.cells #[.int .i64 k2, .int .i64 n2, .string s2] 25))
    simpa using this
  obtain ⟨wz, hwz⟩ : ∃ wz, ((w.alloc (.cells #[.int .i64 k, .int .i64 n, .string s] 25)).alloc (.cells #[.int .i64 k2, .int .i64 n2, .string s2] 25)).alloc (.cells #[.int .i64 0, .int .i64 0, .string ⟨#[]⟩] 25) = wz := ⟨_, rfl⟩
  rw [hwz] at hE0 hX1 hX2 hB
  obtain ⟨⟨x0, x1, x2⟩, _⟩ := hX1.three
  obtain ⟨⟨y0, y1, y2⟩, _⟩ := hX2.three
  have HB := Lib.hid hB
  have HE := Lib.hid hE0
  have HX1 := Lib.hid hX1
  have HX2 := Lib.hid hX2
  clear hB hE0 hX1 hX2
  · go_enter Try.func56, Try.ntmps56
    go_wp2_with (first
      | ((with_reducible refine (HL.out _).mono ?_); rintro e w1 ⟨rfl, hE1⟩; have HBn := Lib.hid (HB.out.ev hE1); have HEn := Lib.hid (HE.out.trans hE1); have HXn := Lib.hid (HX1.out.ev hE1); have HYn := Lib.hid (HX2.out.ev hE1); clear HB HE HX1 HX2; have HB := HBn; have HE := HEn; have HX1 := HXn; have HX2 := HYn; clear HBn HEn HXn HYn; obtain ⟨⟨x0, x1, x2⟩, _⟩ := HX1.out.three; obtain ⟨⟨y0, y1, y2⟩, _⟩ := HX2.out.three)
      | ((with_reducible refine (HT.out _ _).mono ?_); rintro e w1 ⟨rfl, hE1⟩; have B1 := HB.out.ev hE1; have E1 := HE.out.trans hE1; obtain ⟨⟨c0, c1, c2⟩, f0, f1, f2⟩ := B1.three))
    (try simp only [Exit.inBlock, Exit.then])
    rw [set3_fold]
    refine bodyPost_ret (results_cellt rfl _ _ _ _ _ rfl (B1.set3 _ _ _) Try.underlying25 rfl Try.sizeVal) rfl ?_
    exact ⟨rfl, E1.box (set3_but _ _ _ _ _) (by omega)⟩

set_option maxRecDepth 100000 in
set_option maxHeartbeats 1600000 in
theorem ex_and (k n : Int) (s : ByteArray) (k2 n2 : Int) (s2 : ByteArray) (hn : i64R n) (hn2 : i64R n2) (hs : s.size ≤ 100000) (hs2 : s2.size ≤ 100000) (w : World) :
    Calls Try.prog 56 #[.string (bstr bAnd), vv k n s, vv k2 n2 s2] w (VOut (xTruth (!(n == 0) && !(n2 == 0))) w) := by
  have HT := Lib.hid (fun b w1 => ex_truth b w1)
  unfold vv bstr bAnd
  have hE0 : Ev w (((w.alloc (.cells #[.int .i64 k, .int .i64 n, .string s] 25)).alloc (.cells #[.int .i64 k2, .int .i64 n2, .string s2] 25)).alloc (.cells #[.int .i64 0, .int .i64 0, .string ⟨#[]⟩] 25)) := ((Ev.alloc _ _).trans (Ev.alloc _ _)).trans (Ev.alloc _ _)
  have hX1 : Bx 25 w.heap.size #[.int .i64 k, .int .i64 n, .string s] (((w.alloc (.cells #[.int .i64 k, .int .i64 n, .string s] 25)).alloc (.cells #[.int .i64 k2, .int .i64 n2, .string s2] 25)).alloc (.cells #[.int .i64 0, .int .i64 0, .string ⟨#[]⟩] 25)) := (Bx.new _ _ w).ev ((Ev.alloc _ _).trans (Ev.alloc _ _))
  have hX2 : Bx 25 (w.heap.size + 1) #[.int .i64 k2, .int .i64 n2, .string s2] (((w.alloc (.cells #[.int .i64 k, .int .i64 n, .string s] 25)).alloc (.cells #[.int .i64 k2, .int .i64 n2, .string s2] 25)).alloc (.cells #[.int .i64 0, .int .i64 0, .string ⟨#[]⟩] 25)) := by
    have := (Bx.new 25 #[.int .i64 k2, .int .i64 n2, .string s2] (w.alloc (.cells #[.int .i64 k, .int .i64 n, .string s] 25))).ev (Ev.alloc _ (.cells #[.int .i64 0, .int .i64 0, .string ⟨#[]⟩] 25))
    simpa using this
  have hB : Bx 25 (w.heap.size + 1 + 1) #[.int .i64 0, .int .i64 0, .string ⟨#[]⟩] (((w.alloc (.cells #[.int .i64 k, .int .i64 n, .string s] 25)).alloc (.cells #[.int .i64 k2, .int .i64 n2, .string s2] 25)).alloc (.cells #[.int .i64 0, .int .i64 0, .string ⟨#[]⟩] 25)) := by
    have := Bx.new 25 #[.int .i64 0, .int .i64 0, .string ⟨#[]⟩] ((w.alloc (.cells #[.int .i64 k, .int .i64 n, .string s] 25)).alloc (.cells #[.int .i64 k2, .int .i64 n2, .string s2] 25))
    simpa using this
  obtain ⟨wz, hwz⟩ : ∃ wz, ((w.alloc (.cells #[.int .i64 k, .int .i64 n, .string s] 25)).alloc (.cells #[.int .i64 k2, .int .i64 n2, .string s2] 25)).alloc (.cells #[.int .i64 0, .int .i64 0, .string ⟨#[]⟩] 25) = wz := ⟨_, rfl⟩
  rw [hwz] at hE0 hX1 hX2 hB
  obtain ⟨⟨x0, x1, x2⟩, _⟩ := hX1.three
  obtain ⟨⟨y0, y1, y2⟩, _⟩ := hX2.three
  have HB := Lib.hid hB
  have HE := Lib.hid hE0
  have HX1 := Lib.hid hX1
  have HX2 := Lib.hid hX2
  clear hB hE0 hX1 hX2
  obtain ⟨t, ht⟩ : ∃ t, t = (n == 0) := ⟨_, rfl⟩
  obtain ⟨t2, ht2⟩ : ∃ t2, t2 = (n2 == 0) := ⟨_, rfl⟩
  rw [← ht, ← ht2]
  cases t <;> cases t2 <;> (
    first | have g1 : (n == 0) = true := ht.symm | have g1 : (n == 0) = false := ht.symm
    first | have g2 : (n2 == 0) = true := ht2.symm | have g2 : (n2 == 0) = false := ht2.symm
    first | have p1 : n = 0 := beq_iff_eq.1 g1 | have p1 : ¬ (n = 0) := beq_eq_false_iff_ne.1 g1
    first | have p2 : n2 = 0 := beq_iff_eq.1 g2 | have p2 : ¬ (n2 = 0) := beq_eq_false_iff_ne.1 g2
    have m1 : (n != 0) = !(n == 0) := rfl
    have m2 : (n2 != 0) = !(n2 == 0) := rfl
    rw [g1] at m1
    rw [g2] at m2
    have P1 := Lib.hid p1
    have P2 := Lib.hid p2
    clear ht ht2 p1 p2
    go_enter Try.func56, Try.ntmps56
    go_wp2_with (first
      | ((with_reducible refine (HT.out _ _).mono ?_); rintro e w1 ⟨rfl, hE1⟩; have B1 := HB.out.ev hE1; have E1 := HE.out.trans hE1; obtain ⟨⟨c0, c1, c2⟩, f0, f1, f2⟩ := B1.three))
    (try simp only [Exit.inBlock, Exit.then])
    rw [set3_fold]
    refine bodyPost_ret (results_cellt rfl _ _ _ _ _ rfl (B1.set3 _ _ _) Try.underlying25 rfl Try.sizeVal) rfl ?_
    exact ⟨rfl, E1.box (set3_but _ _ _ _ _) (by omega)⟩)

set_option maxRecDepth 100000 in
set_option maxHeartbeats 1600000 in
theorem ex_or (k n : Int) (s : ByteArray) (k2 n2 : Int) (s2 : ByteArray) (hn : i64R n) (hn2 : i64R n2) (hs : s.size ≤ 100000) (hs2 : s2.size ≤ 100000) (w : World) :
    Calls Try.prog 56 #[.string (bstr bOr), vv k n s, vv k2 n2 s2] w (VOut (xTruth (!(n == 0) || !(n2 == 0))) w) := by
  have HT := Lib.hid (fun b w1 => ex_truth b w1)
  unfold vv bstr bOr
  have hE0 : Ev w (((w.alloc (.cells #[.int .i64 k, .int .i64 n, .string s] 25)).alloc (.cells #[.int .i64 k2, .int .i64 n2, .string s2] 25)).alloc (.cells #[.int .i64 0, .int .i64 0, .string ⟨#[]⟩] 25)) := ((Ev.alloc _ _).trans (Ev.alloc _ _)).trans (Ev.alloc _ _)
  have hX1 : Bx 25 w.heap.size #[.int .i64 k, .int .i64 n, .string s] (((w.alloc (.cells #[.int .i64 k, .int .i64 n, .string s] 25)).alloc (.cells #[.int .i64 k2, .int .i64 n2, .string s2] 25)).alloc (.cells #[.int .i64 0, .int .i64 0, .string ⟨#[]⟩] 25)) := (Bx.new _ _ w).ev ((Ev.alloc _ _).trans (Ev.alloc _ _))
  have hX2 : Bx 25 (w.heap.size + 1) #[.int .i64 k2, .int .i64 n2, .string s2] (((w.alloc (.cells #[.int .i64 k, .int .i64 n, .string s] 25)).alloc (.cells #[.int .i64 k2, .int .i64 n2, .string s2] 25)).alloc (.cells #[.int .i64 0, .int .i64 0, .string ⟨#[]⟩] 25)) := by
    have := (Bx.new 25 #[.int .i64 k2, .int .i64 n2, .string s2] (w.alloc (.cells #[.int .i64 k, .int .i64 n, .string s] 25))).ev (Ev.alloc _ (.cells #[.int .i64 0, .int .i64 0, .string ⟨#[]⟩] 25))
    simpa using this
  have hB : Bx 25 (w.heap.size + 1 + 1) #[.int .i64 0, .int .i64 0, .string ⟨#[]⟩] (((w.alloc (.cells #[.int .i64 k, .int .i64 n, .string s] 25)).alloc (.cells #[.int .i64 k2, .int .i64 n2, .string s2] 25)).alloc (.cells #[.int .i64 0, .int .i64 0, .string ⟨#[]⟩] 25)) := by
    have := Bx.new 25 #[.int .i64 0, .int .i64 0, .string ⟨#[]⟩] ((w.alloc (.cells #[.int .i64 k, .int .i64 n, .string s] 25)).alloc (.cells #[.int .i64 k2, .int .i64 n2, .string s2] 25))
    simpa using this
  obtain ⟨wz, hwz⟩ : ∃ wz, ((w.alloc (.cells #[.int .i64 k, .int .i64 n, .string s] 25)).alloc (.cells #[.int .i64 k2, .int .i64 n2, .string s2] 25)).alloc (.cells #[.int .i64 0, .int .i64 0, .string ⟨#[]⟩] 25) = wz := ⟨_, rfl⟩
  rw [hwz] at hE0 hX1 hX2 hB
  obtain ⟨⟨x0, x1, x2⟩, _⟩ := hX1.three
  obtain ⟨⟨y0, y1, y2⟩, _⟩ := hX2.three
  have HB := Lib.hid hB
  have HE := Lib.hid hE0
  have HX1 := Lib.hid hX1
  have HX2 := Lib.hid hX2
  clear hB hE0 hX1 hX2
  obtain ⟨t, ht⟩ : ∃ t, t = (n == 0) := ⟨_, rfl⟩
  obtain ⟨t2, ht2⟩ : ∃ t2, t2 = (n2 == 0) := ⟨_, rfl⟩
  rw [← ht, ← ht2]
  cases t <;> cases t2 <;> (
    first | have g1 : (n == 0) = true := ht.symm | have g1 : (n == 0) = false := ht.symm
    first | have g2 : (n2 == 0) = true := ht2.symm | have g2 : (n2 == 0) = false := ht2.symm
    first | have p1 : n = 0 := beq_iff_eq.1 g1 | have p1 : ¬ (n = 0) := beq_eq_false_iff_ne.1 g1
    first | have p2 : n2 = 0 := beq_iff_eq.1 g2 | have p2 : ¬ (n2 = 0) := beq_eq_false_iff_ne.1 g2
    have m1 : (n != 0) = !(n == 0) := rfl
    have m2 : (n2 != 0) = !(n2 == 0) := rfl
    rw [g1] at m1
    rw [g2] at m2
    have P1 := Lib.hid p1
    have P2 := Lib.hid p2
    clear ht ht2 p1 p2
    go_enter Try.func56, Try.ntmps56
    go_wp2_with (first
      | ((with_reducible refine (HT.out _ _).mono ?_); rintro e w1 ⟨rfl, hE1⟩; have B1 := HB.out.ev hE1; have E1 := HE.out.trans hE1; obtain ⟨⟨c0, c1, c2⟩, f0, f1, f2⟩ := B1.three))
    (try simp only [Exit.inBlock, Exit.then])
    rw [set3_fold]
    refine bodyPost_ret (results_cellt rfl _ _ _ _ _ rfl (B1.set3 _ _ _) Try.underlying25 rfl Try.sizeVal) rfl ?_
    exact ⟨rfl, E1.box (set3_but _ _ _ _ _) (by omega)⟩)

set_option maxRecDepth 100000 in
set_option maxHeartbeats 1600000 in
theorem ex_not (k n : Int) (s : ByteArray) (k2 n2 : Int) (s2 : ByteArray) (hn : i64R n) (hn2 : i64R n2) (hs : s.size ≤ 100000) (hs2 : s2.size ≤ 100000) (w : World) :
    Calls Try.prog 56 #[.string (bstr bNot), vv k n s, vv k2 n2 s2] w (VOut (xTruth (n == 0)) w) := by
  have HT := Lib.hid (fun b w1 => ex_truth b w1)
  unfold vv bstr bNot
  have hE0 : Ev w (((w.alloc (.cells #[.int .i64 k, .int .i64 n, .string s] 25)).alloc (.cells #[.int .i64 k2, .int .i64 n2, .string s2] 25)).alloc (.cells #[.int .i64 0, .int .i64 0, .string ⟨#[]⟩] 25)) := ((Ev.alloc _ _).trans (Ev.alloc _ _)).trans (Ev.alloc _ _)
  have hX1 : Bx 25 w.heap.size #[.int .i64 k, .int .i64 n, .string s] (((w.alloc (.cells #[.int .i64 k, .int .i64 n, .string s] 25)).alloc (.cells #[.int .i64 k2, .int .i64 n2, .string s2] 25)).alloc (.cells #[.int .i64 0, .int .i64 0, .string ⟨#[]⟩] 25)) := (Bx.new _ _ w).ev ((Ev.alloc _ _).trans (Ev.alloc _ _))
  have hX2 : Bx 25 (w.heap.size + 1) #[.int .i64 k2, .int .i64 n2, .string s2] (((w.alloc (.cells #[.int .i64 k, .int .i64 n, .string s] 25)).alloc (.cells #[.int .i64 k2, .int .i64 n2, .string s2] 25)).alloc (.cells #[.int .i64 0, .int .i64 0, .string ⟨#[]⟩] 25)) := by
    have := (Bx.new 25 #[.int .i64 k2, .int .i64 n2, .string s2] (w.alloc (.cells #[.int .i64 k, .int .i64 n, .string s] 25))).ev (Ev.alloc _ (.cells #[.int .i64 0, .int .i64 0, .string ⟨#[]⟩] 25))
    simpa using this
  have hB : Bx 25 (w.heap.size + 1 + 1) #[.int .i64 0, .int .i64 0, .string ⟨#[]⟩] (((w.alloc (.cells #[.int .i64 k, .int .i64 n, .string s] 25)).alloc (.cells #[.int .i64 k2, .int .i64 n2, .string s2] 25)).alloc (.cells #[.int .i64 0, .int .i64 0, .string ⟨#[]⟩] 25)) := by
    have := Bx.new 25 #[.int .i64 0, .int .i64 0, .string ⟨#[]⟩] ((w.alloc (.cells #[.int .i64 k, .int .i64 n, .string s] 25)).alloc (.cells #[.int .i64 k2, .int .i64 n2, .string s2] 25))
    simpa using this
  obtain ⟨wz, hwz⟩ : ∃ wz, ((w.alloc (.cells #[.int .i64 k, .int .i64 n, .string s] 25)).alloc (.cells #[.int .i64 k2, .int .i64 n2, .string s2] 25)).alloc (.cells #[.int .i64 0, .int .i64 0, .string ⟨#[]⟩] 25) = wz := ⟨_, rfl⟩
  rw [hwz] at hE0 hX1 hX2 hB
  obtain ⟨⟨x0, x1, x2⟩, _⟩ := hX1.three
  obtain ⟨⟨y0, y1, y2⟩, _⟩ := hX2.three
  have HB := Lib.hid hB
  have HE := Lib.hid hE0
  have HX1 := Lib.hid hX1
  have HX2 := Lib.hid hX2
  clear hB hE0 hX1 hX2
  obtain ⟨t, ht⟩ : ∃ t, t = (n == 0) := ⟨_, rfl⟩
  obtain ⟨t2, ht2⟩ : ∃ t2, t2 = (n2 == 0) := ⟨_, rfl⟩
  rw [← ht]
  cases t <;> cases t2 <;> (
    first | have g1 : (n == 0) = true := ht.symm | have g1 : (n == 0) = false := ht.symm
    first | have g2 : (n2 == 0) = true := ht2.symm | have g2 : (n2 == 0) = false := ht2.symm
    first | have p1 : n = 0 := beq_iff_eq.1 g1 | have p1 : ¬ (n = 0) := beq_eq_false_iff_ne.1 g1
    first | have p2 : n2 = 0 := beq_iff_eq.1 g2 | have p2 : ¬ (n2 = 0) := beq_eq_false_iff_ne.1 g2
    have m1 : (n != 0) = !(n == 0) := rfl
    have m2 : (n2 != 0) = !(n2 == 0) := rfl
    rw [g1] at m1
    rw [g2] at m2
    have P1 := Lib.hid p1
    have P2 := Lib.hid p2
    clear ht ht2 p1 p2
    go_enter Try.func56, Try.ntmps56
    go_wp2_with (first
      | ((with_reducible refine (HT.out _ _).mono ?_); rintro e w1 ⟨rfl, hE1⟩; have B1 := HB.out.ev hE1; have E1 := HE.out.trans hE1; obtain ⟨⟨c0, c1, c2⟩, f0, f1, f2⟩ := B1.three))
    (try simp only [Exit.inBlock, Exit.then])
    rw [set3_fold]
    refine bodyPost_ret (results_cellt rfl _ _ _ _ _ rfl (B1.set3 _ _ _) Try.underlying25 rfl Try.sizeVal) rfl ?_
    exact ⟨rfl, E1.box (set3_but _ _ _ _ _) (by omega)⟩)

set_option maxRecDepth 100000 in
set_option maxHeartbeats 1600000 in
theorem ex_cat (k n : Int) (s : ByteArray) (k2 n2 : Int) (s2 : ByteArray) (hn : i64R n) (hn2 : i64R n2) (hs : s.size ≤ 100000) (hs2 : s2.size ≤ 100000) (w : World) :
    Calls Try.prog 56 #[.string (bstr bCat), vv k n s, vv k2 n2 s2] w (VOut (if s.size + s2.size ≤ 40 then (vStr (s ++ s2), 0) else (v0, 3)) w) := by
  have HC := fun w1 => ex_joined s s2 hs hs2 w1
  unfold vv bstr bCat
  have hE0 : Ev w (((w.alloc (.cells #[.int .i64 k, .int .i64 n, .string s] 25)).alloc (.cells #[.int .i64 k2, .int .i64 n2, .string s2] 25)).alloc (.cells #[.int .i64 0, .int .i64 0, .string ⟨#[]⟩] 25)) := ((Ev.alloc _ _).trans (Ev.alloc _ _)).trans (Ev.alloc _ _)
  have hX1 : Bx 25 w.heap.size #[.int .i64 k, .int .i64 n, .string s] (((w.alloc (.cells #[.int .i64 k, .int .i64 n, .string s] 25)).alloc (.cells #[.int .i64 k2, .int .i64 n2, .string s2] 25)).alloc (.cells #[.int .i64 0, .int .i64 0, .string ⟨#[]⟩] 25)) := (Bx.new _ _ w).ev ((Ev.alloc _ _).trans (Ev.alloc _ _))
  have hX2 : Bx 25 (w.heap.size + 1) #[.int .i64 k2, .int .i64 n2, .string s2] (((w.alloc (.cells #[.int .i64 k, .int .i64 n, .string s] 25)).alloc (.cells #[.int .i64 k2, .int .i64 n2, .string s2] 25)).alloc (.cells #[.int .i64 0, .int .i64 0, .string ⟨#[]⟩] 25)) := by
    have := (Bx.new 25 #[.int .i64 k2, .int .i64 n2, .string s2] (w.alloc (.cells #[.int .i64 k, .int .i64 n, .string s] 25))).ev (Ev.alloc _ (.cells #[.int .i64 0, .int .i64 0, .string ⟨#[]⟩] 25))
    simpa using this
  have hB : Bx 25 (w.heap.size + 1 + 1) #[.int .i64 0, .int .i64 0, .string ⟨#[]⟩] (((w.alloc (.cells #[.int .i64 k, .int .i64 n, .string s] 25)).alloc (.cells #[.int .i64 k2, .int .i64 n2, .string s2] 25)).alloc (.cells #[.int .i64 0, .int .i64 0, .string ⟨#[]⟩] 25)) := by
    have := Bx.new 25 #[.int .i64 0, .int .i64 0, .string ⟨#[]⟩] ((w.alloc (.cells #[.int .i64 k, .int .i64 n, .string s] 25)).alloc (.cells #[.int .i64 k2, .int .i64 n2, .string s2] 25))
    simpa using this
  obtain ⟨wz, hwz⟩ : ∃ wz, ((w.alloc (.cells #[.int .i64 k, .int .i64 n, .string s] 25)).alloc (.cells #[.int .i64 k2, .int .i64 n2, .string s2] 25)).alloc (.cells #[.int .i64 0, .int .i64 0, .string ⟨#[]⟩] 25) = wz := ⟨_, rfl⟩
  rw [hwz] at hE0 hX1 hX2 hB
  obtain ⟨⟨x0, x1, x2⟩, _⟩ := hX1.three
  obtain ⟨⟨y0, y1, y2⟩, _⟩ := hX2.three
  have HB := Lib.hid hB
  have HE := Lib.hid hE0
  have HX1 := Lib.hid hX1
  have HX2 := Lib.hid hX2
  clear hB hE0 hX1 hX2
  obtain ⟨R, hR⟩ : ∃ R, R = (if s.size + s2.size ≤ 40 then (vStr (s ++ s2), (0 : Int)) else (v0, 3)) := ⟨_, rfl⟩
  rw [← hR] at HC ⊢
  have HC := Lib.hid HC
  clear hR
  · go_enter Try.func56, Try.ntmps56
    go_wp2_with (first
      | ((with_reducible refine (HC.out _).mono ?_); rintro e w1 ⟨rfl, hE1⟩; have B1 := HB.out.ev hE1; have E1 := HE.out.trans hE1; obtain ⟨⟨c0, c1, c2⟩, f0, f1, f2⟩ := B1.three))
    (try simp only [Exit.inBlock, Exit.then])
    rw [set3_fold]
    refine bodyPost_ret (results_cellt rfl _ _ _ _ _ rfl (B1.set3 _ _ _) Try.underlying25 rfl Try.sizeVal) rfl ?_
    exact ⟨rfl, E1.box (set3_but _ _ _ _ _) (by omega)⟩

set_option maxRecDepth 100000 in
set_option maxHeartbeats 1600000 in
theorem ex_len (k n : Int) (s : ByteArray) (k2 n2 : Int) (s2 : ByteArray) (hn : i64R n) (hn2 : i64R n2) (hs : s.size ≤ 100000) (hs2 : s2.size ≤ 100000) (w : World) :
    Calls Try.prog 56 #[.string (bstr bLen), vv k n s, vv k2 n2 s2] w (VOut ((vNum (s.size : Int), 0)) w) := by
  have HC := Lib.hid (fun w1 => value_num (s.size : Int) w1)
  unfold vv bstr bLen
  have hE0 : Ev w (((w.alloc (.cells #[.int .i64 k, .int .i64 n, .string s] 25)).alloc (.cells #[.int .i64 k2, .int .i64 n2, .string s2] 25)).alloc (.cells #[.int .i64 0, .int .i64 0, .string ⟨#[]⟩] 25)) := ((Ev.alloc _ _).trans (Ev.alloc _ _)).trans (Ev.alloc _ _)
  have hX1 : Bx 25 w.heap.size #[.int .i64 k, .int .i64 n, .string s] (((w.alloc (.cells #[.int .i64 k, .int .i64 n, .string s] 25)).alloc (.cells #[.int .i64 k2, .int .i64 n2, .string s2] 25)).alloc (.cells #[.int .i64 0, .int .i64 0, .string ⟨#[]⟩] 25)) := (Bx.new _ _ w).ev ((Ev.alloc _ _).trans (Ev.alloc _ _))
  have hX2 : Bx 25 (w.heap.size + 1) #[.int .i64 k2, .int .i64 n2, .string s2] (((w.alloc (.cells #[.int .i64 k, .int .i64 n, .string s] 25)).alloc (.cells #[.int .i64 k2, .int .i64 n2, .string s2] 25)).alloc (.cells #[.int .i64 0, .int .i64 0, .string ⟨#[]⟩] 25)) := by
    have := (Bx.new 25 #[.int .i64 k2, .int .i64 n2, .string s2] (w.alloc (.cells #[.int .i64 k, .int .i64 n, .string s] 25))).ev (Ev.alloc _ (.cells #[.int .i64 0, .int .i64 0, .string ⟨#[]⟩] 25))
    simpa using this
  have hB : Bx 25 (w.heap.size + 1 + 1) #[.int .i64 0, .int .i64 0, .string ⟨#[]⟩] (((w.alloc (.cells #[.int .i64 k, .int .i64 n, .string s] 25)).alloc (.cells #[.int .i64 k2, .int .i64 n2, .string s2] 25)).alloc (.cells #[.int .i64 0, .int .i64 0, .string ⟨#[]⟩] 25)) := by
    have := Bx.new 25 #[.int .i64 0, .int .i64 0, .string ⟨#[]⟩] ((w.alloc (.cells #[.int .i64 k, .int .i64 n, .string s] 25)).alloc (.cells #[.int .i64 k2, .int .i64 n2, .string s2] 25))
    simpa using this
  obtain ⟨wz, hwz⟩ : ∃ wz, ((w.alloc (.cells #[.int .i64 k, .int .i64 n, .string s] 25)).alloc (.cells #[.int .i64 k2, .int .i64 n2, .string s2] 25)).alloc (.cells #[.int .i64 0, .int .i64 0, .string ⟨#[]⟩] 25) = wz := ⟨_, rfl⟩
  rw [hwz] at hE0 hX1 hX2 hB
  obtain ⟨⟨x0, x1, x2⟩, _⟩ := hX1.three
  obtain ⟨⟨y0, y1, y2⟩, _⟩ := hX2.three
  have HB := Lib.hid hB
  have HE := Lib.hid hE0
  have HX1 := Lib.hid hX1
  have HX2 := Lib.hid hX2
  clear hB hE0 hX1 hX2
  · go_enter Try.func56, Try.ntmps56
    go_wp2_with (first
      | ((with_reducible refine (HC.out _).mono ?_); rintro e w1 ⟨rfl, hE1⟩; have B1 := HB.out.ev hE1; have E1 := HE.out.trans hE1; obtain ⟨⟨c0, c1, c2⟩, f0, f1, f2⟩ := B1.three))
    (try simp only [Exit.inBlock, Exit.then])
    rw [set3_fold]
    refine bodyPost_ret (results_cellt rfl _ _ _ _ _ rfl (B1.set3 _ _ _) Try.underlying25 rfl Try.sizeVal) rfl ?_
    exact ⟨rfl, E1.box (set3_but _ _ _ _ _) (by omega)⟩

/-- What an operation makes of its first and its last operand. -/
theorem ex_perform (s0 : By) (h0 : (xTwo s0 || xOne s0) = true) (a b : V) (hn : i64R a.2.1) (hn2 : i64R b.2.1) (hs : a.2.2.size ≤ 100000) (hs2 : b.2.2.size ≤ 100000) (w : World) :
    Calls Try.prog 56 #[.string (bstr s0), vv a.1 a.2.1 a.2.2, vv b.1 b.2.1 b.2.2] w (VOut (xPerform s0 a b) w) := by
  obtain ⟨k, n, s⟩ := a
  obtain ⟨k2, n2, s2⟩ := b
  simp only at *
  unfold xTwo xOne at h0
  simp only [Bool.or_eq_true, beq_iff_eq] at h0
  rcases h0 with (((((((h | h) | h) | h) | h) | h) | h) | h) | ((h | h) | h) <;> subst h
  · exact ex_add k n s k2 n2 s2 hn hn2 hs hs2 w
  · exact ex_sub k n s k2 n2 s2 hn hn2 hs hs2 w
  · exact ex_mul k n s k2 n2 s2 hn hn2 hs hs2 w
  · exact ex_eq k n s k2 n2 s2 hn hn2 hs hs2 w
  · exact ex_lt k n s k2 n2 s2 hn hn2 hs hs2 w
  · exact ex_and k n s k2 n2 s2 hn hn2 hs hs2 w
  · exact ex_or k n s k2 n2 s2 hn hn2 hs hs2 w
  · exact ex_cat k n s k2 n2 s2 hn hn2 hs hs2 w
  · exact ex_neg k n s k2 n2 s2 hn hn2 hs hs2 w
  · exact ex_not k n s k2 n2 s2 hn hn2 hs hs2 w
  · exact ex_len k n s k2 n2 s2 hn hn2 hs hs2 w
end Go.Proofs.Ytgiofdmedhhobaa

namespace Go.Proofs.Ytgiofdmedhhobaa
open Go.RowKit
set_option linter.unusedVariables false

theorem xTakes_none {s : By} (h : ¬ (s = bAdd) ∧ ¬ (s = bSub) ∧ ¬ (s = bMul) ∧ ¬ (s = bEq) ∧ ¬ (s = bLt) ∧ ¬ (s = bAnd) ∧ ¬ (s = bOr) ∧ ¬ (s = bCat) ∧ ¬ (s = bNeg) ∧ ¬ (s = bNot) ∧ ¬ (s = bLen) ∧ ¬ (s = bIf)) : xTakes s = 0 := by
  obtain ⟨h0, h1, h2, h3, h4, h5, h6, h7, h8, h9, h10, h11⟩ := h
  unfold xTakes xTwo xOne
  simp [h0, h1, h2, h3, h4, h5, h6, h7, h8, h9, h10, h11]
set_option maxRecDepth 100000 in
set_option maxHeartbeats 1600000 in
theorem ex_operands (s : By) (w : World) : Calls Try.prog 65 #[.string (bstr s)] w fun e w' => e = .returned (.int .i64 (xTakes s : Int)) ∧ w = w' := by
  unfold bstr
  by_cases hAdd : s = bAdd
  · subst hAdd
    unfold bAdd
    rw [show xTakes [97, 100, 100] = 2 from rfl]
    go_enter Try.func65, Try.ntmps65
    go_wp2
    go_ret
    exact ⟨rfl, rfl⟩
  by_cases hSub : s = bSub
  · subst hSub
    unfold bSub
    rw [show xTakes [115, 117, 98] = 2 from rfl]
    go_enter Try.func65, Try.ntmps65
    go_wp2
    go_ret
    exact ⟨rfl, rfl⟩
  by_cases hMul : s = bMul
  · subst hMul
    unfold bMul
    rw [show xTakes [109, 117, 108] = 2 from rfl]
    go_enter Try.func65, Try.ntmps65
    go_wp2
    go_ret
    exact ⟨rfl, rfl⟩
  by_cases hEq : s = bEq
  · subst hEq
    unfold bEq
    rw [show xTakes [101, 113] = 2 from rfl]
    go_enter Try.func65, Try.ntmps65
    go_wp2
    go_ret
    exact ⟨rfl, rfl⟩
  by_cases hLt : s = bLt
  · subst hLt
    unfold bLt
    rw [show xTakes [108, 116] = 2 from rfl]
    go_enter Try.func65, Try.ntmps65
    go_wp2
    go_ret
    exact ⟨rfl, rfl⟩
  by_cases hAnd : s = bAnd
  · subst hAnd
    unfold bAnd
    rw [show xTakes [97, 110, 100] = 2 from rfl]
    go_enter Try.func65, Try.ntmps65
    go_wp2
    go_ret
    exact ⟨rfl, rfl⟩
  by_cases hOr : s = bOr
  · subst hOr
    unfold bOr
    rw [show xTakes [111, 114] = 2 from rfl]
    go_enter Try.func65, Try.ntmps65
    go_wp2
    go_ret
    exact ⟨rfl, rfl⟩
  by_cases hCat : s = bCat
  · subst hCat
    unfold bCat
    rw [show xTakes [99, 97, 116] = 2 from rfl]
    go_enter Try.func65, Try.ntmps65
    go_wp2
    go_ret
    exact ⟨rfl, rfl⟩
  by_cases hNeg : s = bNeg
  · subst hNeg
    unfold bNeg
    rw [show xTakes [110, 101, 103] = 1 from rfl]
    go_enter Try.func65, Try.ntmps65
    go_wp2
    go_ret
    exact ⟨rfl, rfl⟩
  by_cases hNot : s = bNot
  · subst hNot
    unfold bNot
    rw [show xTakes [110, 111, 116] = 1 from rfl]
    go_enter Try.func65, Try.ntmps65
    go_wp2
    go_ret
    exact ⟨rfl, rfl⟩
  by_cases hLen : s = bLen
  · subst hLen
    unfold bLen
    rw [show xTakes [108, 101, 110] = 1 from rfl]
    go_enter Try.func65, Try.ntmps65
    go_wp2
    go_ret
    exact ⟨rfl, rfl⟩
  by_cases hIf : s = bIf
  · subst hIf
    unfold bIf
    rw [show xTakes [105, 102] = 3 from rfl]
    go_enter Try.func65, Try.ntmps65
    go_wp2
    go_ret
    exact ⟨rfl, rfl⟩
  rw [xTakes_none ⟨hAdd, hSub, hMul, hEq, hLt, hAnd, hOr, hCat, hNeg, hNot, hLen, hIf⟩]
  have gAdd : (s == bAdd) = false := beq_eq_false_iff_ne.2 hAdd
  have gSub : (s == bSub) = false := beq_eq_false_iff_ne.2 hSub
  have gMul : (s == bMul) = false := beq_eq_false_iff_ne.2 hMul
  have gEq : (s == bEq) = false := beq_eq_false_iff_ne.2 hEq
  have gLt : (s == bLt) = false := beq_eq_false_iff_ne.2 hLt
  have gAnd : (s == bAnd) = false := beq_eq_false_iff_ne.2 hAnd
  have gOr : (s == bOr) = false := beq_eq_false_iff_ne.2 hOr
  have gCat : (s == bCat) = false := beq_eq_false_iff_ne.2 hCat
  have gNeg : (s == bNeg) = false := beq_eq_false_iff_ne.2 hNeg
  have gNot : (s == bNot) = false := beq_eq_false_iff_ne.2 hNot
  have gLen : (s == bLen) = false := beq_eq_false_iff_ne.2 hLen
  have gIf : (s == bIf) = false := beq_eq_false_iff_ne.2 hIf
  unfold bAdd bSub bMul bEq bLt bAnd bOr bCat bNeg bNot bLen bIf at *
  go_enter Try.func65, Try.ntmps65
  go_wp2
  go_ret
  exact ⟨rfl, rfl⟩

set_option maxRecDepth 100000 in
set_option maxHeartbeats 1600000 in
theorem rf_takes (s : By) (w : World) : Calls Try.prog 29 #[.string (bstr s)] w fun e w' => e = .returned (.int .i64 (xTakes s : Int)) ∧ w = w' := by
  unfold bstr
  by_cases hAdd : s = bAdd
  · subst hAdd
    unfold bAdd
    rw [show xTakes [97, 100, 100] = 2 from rfl]
    go_enter Try.func29, Try.ntmps29
    go_wp2
    go_ret
    exact ⟨rfl, rfl⟩
  by_cases hSub : s = bSub
  · subst hSub
    unfold bSub
    rw [show xTakes [115, 117, 98] = 2 from rfl]
    go_enter Try.func29, Try.ntmps29
    go_wp2
    go_ret
    exact ⟨rfl, rfl⟩
  by_cases hMul : s = bMul
  · subst hMul
    unfold bMul
    rw [show xTakes [109, 117, 108] = 2 from rfl]
    go_enter Try.func29, Try.ntmps29
    go_wp2
    go_ret
    exact ⟨rfl, rfl⟩
  by_cases hEq : s = bEq
  · subst hEq
    unfold bEq
    rw [show xTakes [101, 113] = 2 from rfl]
    go_enter Try.func29, Try.ntmps29
    go_wp2
    go_ret
    exact ⟨rfl, rfl⟩
  by_cases hLt : s = bLt
  · subst hLt
    unfold bLt
    rw [show xTakes [108, 116] = 2 from rfl]
    go_enter Try.func29, Try.ntmps29
    go_wp2
    go_ret
    exact ⟨rfl, rfl⟩
  by_cases hAnd : s = bAnd
  · subst hAnd
    unfold bAnd
    rw [show xTakes [97, 110, 100] = 2 from rfl]
    go_enter Try.func29, Try.ntmps29
    go_wp2
    go_ret
    exact ⟨rfl, rfl⟩
  by_cases hOr : s = bOr
  · subst hOr
    unfold bOr
    rw [show xTakes [111, 114] = 2 from rfl]
    go_enter Try.func29, Try.ntmps29
    go_wp2
    go_ret
    exact ⟨rfl, rfl⟩
  by_cases hCat : s = bCat
  · subst hCat
    unfold bCat
    rw [show xTakes [99, 97, 116] = 2 from rfl]
    go_enter Try.func29, Try.ntmps29
    go_wp2
    go_ret
    exact ⟨rfl, rfl⟩
  by_cases hNeg : s = bNeg
  · subst hNeg
    unfold bNeg
    rw [show xTakes [110, 101, 103] = 1 from rfl]
    go_enter Try.func29, Try.ntmps29
    go_wp2
    go_ret
    exact ⟨rfl, rfl⟩
  by_cases hNot : s = bNot
  · subst hNot
    unfold bNot
    rw [show xTakes [110, 111, 116] = 1 from rfl]
    go_enter Try.func29, Try.ntmps29
    go_wp2
    go_ret
    exact ⟨rfl, rfl⟩
  by_cases hLen : s = bLen
  · subst hLen
    unfold bLen
    rw [show xTakes [108, 101, 110] = 1 from rfl]
    go_enter Try.func29, Try.ntmps29
    go_wp2
    go_ret
    exact ⟨rfl, rfl⟩
  by_cases hIf : s = bIf
  · subst hIf
    unfold bIf
    rw [show xTakes [105, 102] = 3 from rfl]
    go_enter Try.func29, Try.ntmps29
    go_wp2
    go_ret
    exact ⟨rfl, rfl⟩
  rw [xTakes_none ⟨hAdd, hSub, hMul, hEq, hLt, hAnd, hOr, hCat, hNeg, hNot, hLen, hIf⟩]
  have gAdd : (s == bAdd) = false := beq_eq_false_iff_ne.2 hAdd
  have gSub : (s == bSub) = false := beq_eq_false_iff_ne.2 hSub
  have gMul : (s == bMul) = false := beq_eq_false_iff_ne.2 hMul
  have gEq : (s == bEq) = false := beq_eq_false_iff_ne.2 hEq
  have gLt : (s == bLt) = false := beq_eq_false_iff_ne.2 hLt
  have gAnd : (s == bAnd) = false := beq_eq_false_iff_ne.2 hAnd
  have gOr : (s == bOr) = false := beq_eq_false_iff_ne.2 hOr
  have gCat : (s == bCat) = false := beq_eq_false_iff_ne.2 hCat
  have gNeg : (s == bNeg) = false := beq_eq_false_iff_ne.2 hNeg
  have gNot : (s == bNot) = false := beq_eq_false_iff_ne.2 hNot
  have gLen : (s == bLen) = false := beq_eq_false_iff_ne.2 hLen
  have gIf : (s == bIf) = false := beq_eq_false_iff_ne.2 hIf
  unfold bAdd bSub bMul bEq bLt bAnd bOr bCat bNeg bNot bLen bIf at *
  go_enter Try.func29, Try.ntmps29
  go_wp2
  go_ret
  exact ⟨rfl, rfl⟩

end Go.Proofs.Ytgiofdmedhhobaa

namespace Go.Proofs.Ytgiofdmedhhobaa
open Go.RowKit
set_option linter.unusedVariables false

def xForeignP (k : Int) (s : By) (n : Int) (n1 : Nat) : Bool :=
  if k == 1 then !xName s || !(n == 0) || decide (0 < n1)
  else if k == 2 then !s.isEmpty || decide (0 < n1)
  else if k == 3 then !(n == 0) || decide (0 < n1)
  else if k == 4 then xTakes s == 0 || !(n == 0) || !(n1 == xTakes s)
  else true
theorem step_callg {P : Program} {ops : Array Oper} {o : Oper} {a : Act} {w : World} {K : Act → World → Prop} {Q : Exit → Act → World → Prop} {E : Prop}
    (f : FuncId) (xs : Array Operand) (ts : Array TypeId) (hop : o.op = .call { callee := .value (.func f), args := xs, argTypes := ts }) (hb : bodied P f = true) (args : Array Value) (ha : xs.map a.eval = args) (v : Value)
    (hc : Calls P f args w fun e w' => e = .returned v ∧ w = w') (hg : Region.wanted o (yielded ops a.tmps) = true) (hK : K (a.put o.dst v) w) :
    if Region.wanted o (yielded ops a.tmps) = true then Oper.wp P o a w K Q else E := by
  rw [if_pos hg]
  unfold Oper.wp
  rw [run_call f xs ts hop hb w, ha]
  refine hc.mono ?_
  rintro e w' ⟨rfl, rfl⟩
  exact hK
theorem xForeign_p (m : M) : xForeign m.t = xForeignP m.kind m.s m.n m.kids.length := by
  unfold xForeign xForeignP
  rw [M.t_kind, M.t_s, M.t_n, M.t_kids, List.length_map]
  have : (!(m.kids.map M.t).isEmpty) = decide (0 < m.kids.length) := by cases m.kids <;> simp
  rw [this]

set_option maxRecDepth 100000 in
theorem ex_kids (m : M) (w : World) : Calls Try.prog 39 #[ev_ m] w fun e w' => e = .returned m.kv ∧ Ev w w' := by
  unfold ev_ M.kv
  go_enter Try.func39, Try.ntmps39
  go_wp2
  go_ret
  exact ⟨rfl, Ev.alloc _ _⟩

set_option maxRecDepth 100000 in
set_option maxHeartbeats 4000000 in
theorem ex_isForeign (k : Int) (s : By) (n : Int) (A : Option Addr) (n1 cap : Nat) (w : World) (hs : s.length ≤ 1000000) (hn1 : n1 ≤ 1000000) :
    Calls Try.prog 48 #[.agg #[.int .i64 k, .string ⟨s.toArray⟩, .int .i64 n, .slice A n1 cap]] w fun e w' => e = .returned (.bool (xForeignP k s n n1)) ∧ Ev w w' := by
  have HNm := fun w1 => row_name (bstr s) w1
  have HO := Lib.hid (fun w1 => ex_operands s w1)
  have hE := Ev.alloc w (.cells #[.int .i64 k, .string ⟨s.toArray⟩, .int .i64 n, .slice A n1 cap] 39)
  have hB := Bx.new 39 #[.int .i64 k, .string ⟨s.toArray⟩, .int .i64 n, .slice A n1 cap] w
  obtain ⟨w0, hw0⟩ : ∃ w0, w.alloc (.cells #[.int .i64 k, .string ⟨s.toArray⟩, .int .i64 n, .slice A n1 cap] 39) = w0 := ⟨_, rfl⟩
  rw [hw0] at hE hB
  obtain ⟨⟨c0, c1, c2, c3⟩, _⟩ := hB.four
  have HB := Lib.hid hB
  have HE := Lib.hid hE
  clear hB hE
  unfold bstr at HNm HO
  by_cases k1 : k = 1
  · subst k1
    unfold xForeignP
    simp only [beq_self_eq_true, if_true]
    rw [show xName s = nameV ⟨s.toArray⟩ from rfl]
    generalize nameV ⟨s.toArray⟩ = y at *
    have HNm := Lib.hid HNm
    cases y with
    | false =>
      go_enter Try.func48, Try.ntmps48
      go_wp2_with (first | ((with_reducible refine (HNm.out _).mono ?_); rintro e w1 ⟨rfl, hE1⟩; have E1 := HE.out.trans hE1))
      go_ret
      exact ⟨rfl, E1⟩
    | true =>
      by_cases h0 : n = 0
      · subst h0
        by_cases h1 : 0 < n1
        · have i1 : (0 : Int) < (n1 : Int) := by omega
          go_enter Try.func48, Try.ntmps48
          go_wp2_with (first | ((with_reducible refine (HNm.out _).mono ?_); rintro e w1 ⟨rfl, hE1⟩; have E1 := HE.out.trans hE1; obtain ⟨⟨c0, c1, c2, c3⟩, _⟩ := (HB.out.ev hE1).four))
          go_ret
          exact ⟨by simp [h1], E1⟩
        · have i1 : ¬ ((0 : Int) < (n1 : Int)) := by omega
          go_enter Try.func48, Try.ntmps48
          go_wp2_with (first | ((with_reducible refine (HNm.out _).mono ?_); rintro e w1 ⟨rfl, hE1⟩; have E1 := HE.out.trans hE1; obtain ⟨⟨c0, c1, c2, c3⟩, _⟩ := (HB.out.ev hE1).four))
          go_ret
          exact ⟨by simp [h1], E1⟩
      · have h0' : (n == 0) = false := beq_eq_false_iff_ne.2 h0
        have h0n : (n != 0) = true := by simp [h0]
        go_enter Try.func48, Try.ntmps48
        go_wp2_with (first | ((with_reducible refine (HNm.out _).mono ?_); rintro e w1 ⟨rfl, hE1⟩; have E1 := HE.out.trans hE1; obtain ⟨⟨c0, c1, c2, c3⟩, _⟩ := (HB.out.ev hE1).four))
        go_ret
        exact ⟨by simp [h0], E1⟩
  have k1' : (k == 1) = false := beq_eq_false_iff_ne.2 k1
  by_cases k2 : k = 2
  · subst k2
    unfold xForeignP
    simp only [k1', beq_self_eq_true, if_true, Bool.false_eq_true, if_false]
    cases hse : s with
    | nil =>
      rw [hse] at c1 hw0
      by_cases h1 : 0 < n1
      · have i1 : (0 : Int) < (n1 : Int) := by omega
        go_enter Try.func48, Try.ntmps48
        go_wp2
        go_ret
        exact ⟨by first | rfl | simp [h1], HE.out⟩
      · have i1 : ¬ ((0 : Int) < (n1 : Int)) := by omega
        go_enter Try.func48, Try.ntmps48
        go_wp2
        go_ret
        exact ⟨by first | rfl | simp [h1], HE.out⟩
    | cons x q =>
      rw [hse] at c1 hw0
      go_enter Try.func48, Try.ntmps48
      go_wp2
      go_ret
      exact ⟨rfl, HE.out⟩
  have k2' : (k == 2) = false := beq_eq_false_iff_ne.2 k2
  by_cases k3 : k = 3
  · subst k3
    unfold xForeignP
    simp only [k1', k2', beq_self_eq_true, if_true, Bool.false_eq_true, if_false]
    by_cases h0 : n = 0
    · subst h0
      by_cases h1 : 0 < n1
      · have i1 : (0 : Int) < (n1 : Int) := by omega
        go_enter Try.func48, Try.ntmps48
        go_wp2
        go_ret
        exact ⟨by first | rfl | simp [h1], HE.out⟩
      · have i1 : ¬ ((0 : Int) < (n1 : Int)) := by omega
        go_enter Try.func48, Try.ntmps48
        go_wp2
        go_ret
        exact ⟨by first | rfl | simp [h1], HE.out⟩
    · have h0' : (n == 0) = false := beq_eq_false_iff_ne.2 h0
      have h0n : (n != 0) = true := by simp [h0]
      go_enter Try.func48, Try.ntmps48
      go_wp2
      go_ret
      exact ⟨by simp [h0], HE.out⟩
  have k3' : (k == 3) = false := beq_eq_false_iff_ne.2 k3
  by_cases k4 : k = 4
  · subst k4
    unfold xForeignP
    simp only [k1', k2', k3', beq_self_eq_true, if_true, Bool.false_eq_true, if_false]
    obtain ⟨t, ht⟩ : ∃ t, t = xTakes s := ⟨_, rfl⟩
    rw [← ht] at HO ⊢
    clear ht
    cases t with
    | zero =>
        rw [show ((0 : Nat) : Int) = 0 from rfl] at HO
        go_enter Try.func48, Try.ntmps48
        go_wp2
        go_quiet (first | (go_at_call 65; exact Calls.quiet_of_same ((HO.out _).mono fun _ _ h => ⟨h.1, h.2.symm⟩)))
        all_goals (go_wp2; go_ret; exact ⟨by first | rfl | simp, HE.out.trans (Ev.drewN _ _)⟩)
    | succ t =>
      have e1 : ¬ (((t + 1 : Nat) : Int) = 0) := by omega
      have e1' : (((t : Int) + 1) == 0) = false := by simp; omega
      have e1n : ¬ ((t : Int) + 1 = 0) := by omega
      by_cases h0 : n = 0
      · subst h0
        by_cases h1 : n1 = t + 1
        · subst h1
          go_enter Try.func48, Try.ntmps48
          go_wp2
          go_quiet (first | (go_at_call 65; exact Calls.quiet_of_same ((HO.out _).mono fun _ _ h => ⟨h.1, h.2.symm⟩)))
          all_goals (go_wp2; go_ret; exact ⟨by first | rfl | simp, HE.out.trans (Ev.drewN _ _)⟩)
        · have h1' : ¬ ((n1 : Int) = (t : Int) + 1) := by omega
          have h1n : ((n1 : Int) != (t : Int) + 1) = true := by simp; omega
          go_enter Try.func48, Try.ntmps48
          go_wp2
          go_quiet (first | (go_at_call 65; exact Calls.quiet_of_same ((HO.out _).mono fun _ _ h => ⟨h.1, h.2.symm⟩)))
          all_goals (go_wp2; go_ret; exact ⟨by first | rfl | simp [h1], HE.out.trans (Ev.drewN _ _)⟩)
      · have h0' : (n == 0) = false := beq_eq_false_iff_ne.2 h0
        have h0n : (n != 0) = true := by simp [h0]
        go_enter Try.func48, Try.ntmps48
        go_wp2
        go_quiet (first | (go_at_call 65; exact Calls.quiet_of_same ((HO.out _).mono fun _ _ h => ⟨h.1, h.2.symm⟩)))
        all_goals (go_wp2; go_ret; exact ⟨by first | rfl | simp [h0], HE.out.trans (Ev.drewN _ _)⟩)
  have k4' : (k == 4) = false := beq_eq_false_iff_ne.2 k4
  unfold xForeignP
  simp only [k1', k2', k3', k4', Bool.false_eq_true, if_false]
  go_enter Try.func48, Try.ntmps48
  go_wp2
  go_ret
  exact ⟨rfl, HE.out⟩
end Go.Proofs.Ytgiofdmedhhobaa
