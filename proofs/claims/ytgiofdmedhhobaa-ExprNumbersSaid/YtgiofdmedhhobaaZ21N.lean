/-
  Texts that belong together: The document's own expressions: num, truth, sums. The document's own expressions: eval, Eval. The fixed texts of the laws, read. The columns that the laws ask; what the fixed expressions are worth.
-/
import Derived.Test.YtgiofdmedhhobaaZ20N
import Derived.Test.YtgiofdmedhhobaaZ6N
import Derived.KernelRfl
import Derived.Test.YtgiofdmedhhobaaZ8N
namespace Go.Proofs.Ytgiofdmedhhobaa
open Go.RowKit
set_option linter.unusedVariables false

theorem rx_num (n : Int) (w : World) :
    Calls Try.prog 58 #[.int .i64 n] w fun e w' => e = .returned (vv 1 n ⟨#[]⟩) ∧ Ev w w' := by
  go_enter Try.func58, Try.ntmps58
  go_wp2
  refine bodyPost_ret (ret_val rfl _ _ w.heap.size 1 n ⟨#[]⟩ rfl (heap_alloc_new w _)) rfl ?_
  exact ⟨rfl, Ev.alloc _ _⟩
theorem rx_truth (b : Bool) (w : World) :
    Calls Try.prog 59 #[.bool b] w fun e w' => e = .returned (vv 1 (if b then 1 else 0) ⟨#[]⟩) ∧ Ev w w' := by
  have HN := Lib.hid (fun n w1 => rx_num n w1)
  have hB := vbox w
  have hE := Ev.alloc w (.cells #[.int .i64 0, .int .i64 0, .string ⟨#[]⟩] 25)
  obtain ⟨w0, hw0⟩ : ∃ w0, w.alloc (.cells #[.int .i64 0, .int .i64 0, .string ⟨#[]⟩] 25) = w0 := ⟨_, rfl⟩
  rw [hw0] at hB hE
  have HB := Lib.hid hB
  have HE := Lib.hid hE
  clear hB hE
  cases b <;> (
    go_enter Try.func59, Try.ntmps59
    go_wp2_with (first | ((with_reducible refine (HN.out _ _).mono ?_); rintro e w1 ⟨rfl, hE1⟩; have B1 := HB.out.ev hE1; have E1 := HE.out.trans hE1; obtain ⟨⟨c0, c1, c2⟩, f0, f1, f2⟩ := B1.three))
    (try simp only [Exit.inBlock, Exit.then])
    rw [set3_fold]
    refine bodyPost_ret (ret_val rfl _ _ w.heap.size 1 _ ⟨#[]⟩ rfl (B1.set3 _ _ _).blk) rfl ?_
    exact ⟨rfl, E1.box (set3_but _ _ _ _ _) (Nat.le_refl _)⟩)
/-- What sums gives of a result x. -/
def SumOut (x : Int) (w : World) (e : Ending) (w' : World) : Prop := ∃ n, e = .returned (.tuple #[.int .i64 n, .bool (decide (i64R x))]) ∧ (i64R x → n = x) ∧ w = w'

set_option maxRecDepth 100000 in
theorem rx_sumAdd (a b : Int) (ha : i64R a) (hb : i64R b) (w : World) : Calls Try.prog 61 #[.string (bstr bAdd), .int .i64 a, .int .i64 b] w (SumOut (a + b) w) := by
  obtain ⟨h1, h2⟩ := sum_test ha hb
  obtain ⟨n, hn⟩ : ∃ n, IntKind.i64.wrap (a + b) = n := ⟨_, rfl⟩
  unfold bstr bAdd SumOut
  rw [hn] at h1 h2
  have H2 := Lib.hid h2
  clear h2
  by_cases h3 : a < n <;> by_cases h4 : 0 < b <;> (
    simp [h3, h4] at h1
    have HF := Lib.hid h1
    clear h1
    go_enter Try.func61, Try.ntmps61
    go_wp2
    go_ret2
    refine ⟨n, ?_, H2.out, rfl⟩
    simp [HF.out])
set_option maxRecDepth 100000 in
theorem rx_sumSub (a b : Int) (ha : i64R a) (hb : i64R b) (w : World) : Calls Try.prog 61 #[.string (bstr bSub), .int .i64 a, .int .i64 b] w (SumOut (a - b) w) := by
  obtain ⟨h1, h2⟩ := dif_test ha hb
  obtain ⟨n, hn⟩ : ∃ n, IntKind.i64.wrap (a - b) = n := ⟨_, rfl⟩
  unfold bstr bSub SumOut
  rw [hn] at h1 h2
  have H2 := Lib.hid h2
  clear h2
  by_cases h3 : n < a <;> by_cases h4 : 0 < b <;> (
    simp [h3, h4] at h1
    have HF := Lib.hid h1
    clear h1
    go_enter Try.func61, Try.ntmps61
    go_wp2
    go_ret2
    refine ⟨n, ?_, H2.out, rfl⟩
    simp [HF.out])
set_option maxRecDepth 100000 in
theorem rx_sumNeg (a b : Int) (ha : i64R a) (w : World) : Calls Try.prog 61 #[.string (bstr bNeg), .int .i64 a, .int .i64 b] w (SumOut (-a) w) := by
  unfold bstr bNeg SumOut
  by_cases h : a = -9223372036854775808
  · have hR : ¬ i64R (-a) := by unfold i64R; omega
    have hb : (a != -9223372036854775808) = false := by simp [h]
    have HR := Lib.hid hR
    clear hR
    go_enter Try.func61, Try.ntmps61
    go_wp2
    go_ret2
    exact ⟨_, by rw [decide_eq_false HR.out]; rfl, (fun hh => absurd hh HR.out), rfl⟩
  · have hR : i64R (-a) := by unfold i64R at *; omega
    have hb : (a != -9223372036854775808) = true := by simp [h]
    have i1 : IntKind.i64.wrap (-a) = -a := IntWalk.i64_in _ hR
    have HR := Lib.hid hR
    clear hR h
    go_enter Try.func61, Try.ntmps61
    go_wp2
    go_ret2
    exact ⟨_, by rw [decide_eq_true HR.out]; rfl, (fun _ => by first | rfl | exact i1), rfl⟩
set_option maxRecDepth 100000 in
set_option maxHeartbeats 1600000 in
theorem rx_sumMul (a b : Int) (ha : i64R a) (hb : i64R b) (w : World) : Calls Try.prog 61 #[.string (bstr bMul), .int .i64 a, .int .i64 b] w (SumOut (a * b) w) := by
  unfold bstr bMul SumOut
  by_cases a0 : a = 0
  · have hR : i64R (a * b) := by rw [a0]; unfold i64R; omega
    have HR := Lib.hid hR
    have HX : Hid (a * b = 0) := Lib.hid (by rw [a0]; omega)
    have a0b : (a == 0) = true := beq_iff_eq.2 a0
    clear hR a0
    go_enter Try.func61, Try.ntmps61
    go_wp2
    go_ret2
    exact ⟨0, by rw [decide_eq_true HR.out]; rfl, (fun _ => HX.out.symm), rfl⟩
  have a0b : (a == 0) = false := beq_eq_false_iff_ne.2 a0
  by_cases b0 : b = 0
  · have hR : i64R (a * b) := by rw [b0]; unfold i64R; omega
    have HR := Lib.hid hR
    have HX : Hid (a * b = 0) := Lib.hid (by rw [b0]; omega)
    have b0b : (b == 0) = true := beq_iff_eq.2 b0
    clear hR a0 b0
    go_enter Try.func61, Try.ntmps61
    go_wp2
    go_ret2
    exact ⟨0, by rw [decide_eq_true HR.out]; rfl, (fun _ => HX.out.symm), rfl⟩
  have b0b : (b == 0) = false := beq_eq_false_iff_ne.2 b0
  by_cases al : a = -9223372036854775808
  · have alb : (a == -9223372036854775808) = true := beq_iff_eq.2 al
    have a1b : (a == 1) = false := beq_eq_false_iff_ne.2 (by omega)
    by_cases b1 : b = 1
    · have b1b : (b == 1) = true := beq_iff_eq.2 b1
      have hR : i64R (a * b) := by rw [al, b1]; unfold i64R; omega
      have HR := Lib.hid hR
      have HX : Hid (a * b = -9223372036854775808) := Lib.hid (by rw [al, b1]; omega)
      clear hR a0 b0 b1 al
      go_enter Try.func61, Try.ntmps61
      go_wp2
      go_ret2
      exact ⟨_, by rw [decide_eq_true HR.out]; rfl, (fun _ => HX.out.symm), rfl⟩
    · have b1b : (b == 1) = false := beq_eq_false_iff_ne.2 b1
      have hR : ¬ i64R (a * b) := by rw [al]; unfold i64R; omega
      have HR := Lib.hid hR
      clear hR a0 b0 b1 al
      go_enter Try.func61, Try.ntmps61
      go_wp2
      go_ret2
      exact ⟨_, by rw [decide_eq_false HR.out]; rfl, (fun hh => absurd hh HR.out), rfl⟩
  have alb : (a == -9223372036854775808) = false := beq_eq_false_iff_ne.2 al
  by_cases bl : b = -9223372036854775808
  · have blb : (b == -9223372036854775808) = true := beq_iff_eq.2 bl
    have b1b : (b == 1) = false := beq_eq_false_iff_ne.2 (by omega)
    by_cases a1 : a = 1
    · have a1b : (a == 1) = true := beq_iff_eq.2 a1
      have hR : i64R (a * b) := by rw [bl, a1]; unfold i64R; omega
      have HR := Lib.hid hR
      have HX : Hid (a * b = -9223372036854775808) := Lib.hid (by rw [bl, a1]; omega)
      clear hR a0 b0 a1 al bl
      go_enter Try.func61, Try.ntmps61
      go_wp2
      go_ret2
      exact ⟨_, by rw [decide_eq_true HR.out]; rfl, (fun _ => HX.out.symm), rfl⟩
    · have a1b : (a == 1) = false := beq_eq_false_iff_ne.2 a1
      have hR : ¬ i64R (a * b) := by rw [bl]; unfold i64R; omega
      have HR := Lib.hid hR
      clear hR a0 b0 a1 al bl
      go_enter Try.func61, Try.ntmps61
      go_wp2
      go_ret2
      exact ⟨_, by rw [decide_eq_false HR.out]; rfl, (fun hh => absurd hh HR.out), rfl⟩
  have blb : (b == -9223372036854775808) = false := beq_eq_false_iff_ne.2 bl
  have hpt := prod_test hb ha b0
  rw [Int.mul_comm b a] at hpt
  have hfit := fun (h : i64R (a * b)) => (IntWalk.i64_in (a * b) h : IntKind.i64.wrap (a * b) = a * b)
  have hneg : a = -1 ∨ b = -1 → IntKind.i64.wrap (a * b) ≠ -9223372036854775808 := by
    unfold i64R at ha hb
    rintro (h | h)
    · rw [h, IntWalk.i64_in (-1 * b) ⟨by omega, by omega⟩]; omega
    · rw [h, IntWalk.i64_in (a * -1) ⟨by omega, by omega⟩]; omega
  obtain ⟨n, hn⟩ : ∃ n, IntKind.i64.wrap (a * b) = n := ⟨_, rfl⟩
  rw [hn] at hpt hfit hneg
  have HFIT := Lib.hid hfit
  obtain ⟨d, hd⟩ : ∃ d, IntKind.i64.wrap (n.tdiv b) = d := ⟨_, rfl⟩
  rw [hd] at hpt
  have hda : d = a ↔ i64R (a * b) := ⟨fun h => hpt.1 ⟨h, fun h2 => al h2.2⟩, fun h => (hpt.2 h).1⟩
  by_cases hdb : d = a
  · have dab : (d == a) = true := beq_iff_eq.2 hdb
    have HR := Lib.hid (hda.1 hdb)
    by_cases nl : n = -9223372036854775808
    · have nlb : (n == -9223372036854775808) = true := beq_iff_eq.2 nl
      have nlc : (n != -9223372036854775808) = false := by simp [nl]
      have am : (a != -1) = true := by simp; intro h; exact hneg (.inl h) nl
      have bm : (b != -1) = true := by simp; intro h; exact hneg (.inr h) nl
      clear hpt hda hfit hneg nl al bl hdb a0
      go_enter Try.func61, Try.ntmps61
      go_wp2
      go_ret2
      exact ⟨_, by rw [decide_eq_true HR.out]; rfl, HFIT.out, rfl⟩
    · have nlb : (n == -9223372036854775808) = false := beq_eq_false_iff_ne.2 nl
      have nlc : (n != -9223372036854775808) = true := by simp [nl]
      clear hpt hda hfit hneg nl al bl hdb a0
      go_enter Try.func61, Try.ntmps61
      go_wp2
      go_ret2
      exact ⟨_, by rw [decide_eq_true HR.out]; rfl, HFIT.out, rfl⟩
  · have dab : (d == a) = false := beq_eq_false_iff_ne.2 hdb
    have HR := Lib.hid (fun h => hdb (hda.2 h))
    by_cases nl : n = -9223372036854775808
    · have nlb : (n == -9223372036854775808) = true := beq_iff_eq.2 nl
      have nlc : (n != -9223372036854775808) = false := by simp [nl]
      clear hpt hda hfit hneg nl al bl hdb a0
      go_enter Try.func61, Try.ntmps61
      go_wp2
      go_ret2
      exact ⟨_, by rw [decide_eq_false HR.out]; rfl, (fun hh => absurd hh HR.out), rfl⟩
    · have nlb : (n == -9223372036854775808) = false := beq_eq_false_iff_ne.2 nl
      have nlc : (n != -9223372036854775808) = true := by simp [nl]
      clear hpt hda hfit hneg nl al bl hdb a0
      go_enter Try.func61, Try.ntmps61
      go_wp2
      go_ret2
      exact ⟨_, by rw [decide_eq_false HR.out]; rfl, (fun hh => absurd hh HR.out), rfl⟩
end Go.Proofs.Ytgiofdmedhhobaa

namespace Go.Proofs.Ytgiofdmedhhobaa
open Go.RowKit
set_option linter.unusedVariables false

/-- The two boxes of a call: the expression's, and the result's. -/
theorem bx_ev (w : World) (c0 c1 c2 c3 : Value) : ∃ w0, (w.alloc (.cells #[c0, c1, c2, c3] 39)).alloc (.cells #[.int .i64 0, .int .i64 0, .string ⟨#[]⟩] 25) = w0 ∧ Ev w w0 ∧ Bx 39 w.heap.size #[c0, c1, c2, c3] w0 ∧ Bx 25 (w.heap.size + 1) #[.int .i64 0, .int .i64 0, .string ⟨#[]⟩] w0 := by
  have hB : Bx 25 (w.heap.size + 1) #[.int .i64 0, .int .i64 0, .string ⟨#[]⟩] ((w.alloc (.cells #[c0, c1, c2, c3] 39)).alloc (.cells #[.int .i64 0, .int .i64 0, .string ⟨#[]⟩] 25)) := by
    have := vbox (w.alloc (.cells #[c0, c1, c2, c3] 39))
    simpa using this
  exact ⟨_, rfl, (Ev.alloc w _).trans (Ev.alloc _ _), (Bx.new 39 #[c0, c1, c2, c3] w).ev (Ev.alloc _ _), hB⟩
/-- A part's value, as the document's eval tells it. -/
def EvAt2 (A : Option Addr) (n cap : Nat) (cols : List C) (B : Option Addr) (n2 cap2 : Nat) (r : List V) (w : World) (x : M) : Prop :=
  ∀ w1, Ev w w1 → Calls Try.prog 37 #[ev_ x, .slice A n cap, .slice B n2 cap2] w1 (VOut (xEval cols r x.t) w1)
/-- What stays behind both parts' values. -/
structure EvS (w : World) (ga gb : Nat) (xc : Array Value) (va vb : V) (wz : World) : Prop where
  x : Bx 39 w.heap.size xc wz
  r : Bx 25 (w.heap.size + 1) #[.int .i64 0, .int .i64 0, .string ⟨#[]⟩] wz
  a : Bx 25 ga #[.int .i64 va.1, .int .i64 va.2.1, .string va.2.2] wz
  b : Bx 25 gb #[.int .i64 vb.1, .int .i64 vb.2.1, .string vb.2.2] wz
  all : Ev w wz
theorem EvS.ev {w : World} {ga gb : Nat} {xc : Array Value} {va vb : V} {wz wy : World} (h : EvS w ga gb xc va vb wz) (hE : Ev wz wy) : EvS w ga gb xc va vb wy := ⟨h.x.ev hE, h.r.ev hE, h.a.ev hE, h.b.ev hE, h.all.trans hE⟩
/-- The second part's value is stored. -/
theorem EvS.stored {w w0 w1 w2 : World} {xc : Array Value} {ka na : Int} {sa : ByteArray} (kb nb : Int) (sb : ByteArray) (hE0 : Ev w w0) (hX : Bx 39 w.heap.size xc w0) (hB : Bx 25 (w.heap.size + 1) #[.int .i64 0, .int .i64 0, .string ⟨#[]⟩] w0) (hE1 : Ev w0 w1)
    (hE2 : Ev ((w1.alloc (.cells #[.int .i64 ka, .int .i64 na, .string sa] 25)).alloc (.cells #[.int .i64 0, .int .i64 0, .string ⟨#[]⟩] 25)) w2) :
    EvS w w1.heap.size (w1.heap.size + 1) xc (ka, na, sa) (kb, nb, sb) (set3 (w1.heap.size + 1) (.int .i64 kb) (.int .i64 nb) (.string sb) w2) := by
  have hE3 : Ev w1 w2 := ((Ev.alloc w1 _).trans (Ev.alloc _ _)).trans hE2
  have hA : Bx 25 w1.heap.size #[.int .i64 ka, .int .i64 na, .string sa] w2 := (Bx.new 25 #[.int .i64 ka, .int .i64 na, .string sa] w1).ev ((Ev.alloc _ _).trans hE2)
  have hZ : Bx 25 (w1.heap.size + 1) #[.int .i64 0, .int .i64 0, .string ⟨#[]⟩] w2 := by
    have := (vbox (w1.alloc (.cells #[.int .i64 ka, .int .i64 na, .string sa] 25))).ev hE2
    simpa using this
  have hl : w.heap.size + 1 < w1.heap.size := Nat.lt_of_lt_of_le hB.lt hE1.size
  have hS := set3_but (w1.heap.size + 1) (.int .i64 kb) (.int .i64 nb) (.string sb) w2
  refine ⟨?_, ?_, ?_, hZ.set3 _ _ _, ?_⟩
  · exact (hX.ev (hE1.trans hE3)).but hS (by simp; omega)
  · exact (hB.ev (hE1.trans hE3)).but hS (by simp; omega)
  · exact hA.but hS (by simp)
  · exact ((hE0.trans hE1).trans hE3).box hS (by omega)

set_option maxRecDepth 100000 in
set_option maxHeartbeats 16000000 in
theorem rx_evalTwo {A B D : Option Addr} {n cap n2 cap2 cap3 : Nat} {cols : List C} {r : List V} (w : World) (ms : By) (mn : Int) (a b : M) (hs : Es w D 2 cap3 [a, b]) (ha : EvAt2 A n cap cols B n2 cap2 r w a) (hb : EvAt2 A n cap cols B n2 cap2 r w b) (hop : xTwo ms = true) (hfa : fairV (xEval cols r a.t).1) (hfb : fairV (xEval cols r b.t).1) :
    Calls Try.prog 37 #[.agg #[.int .i64 4, .string ⟨ms.toArray⟩, .int .i64 mn, .slice D 2 cap3], .slice A n cap, .slice B n2 cap2] w (VOut (xEvalsGo ms [] [xEval cols r a.t, xEval cols r b.t]) w) := by
  have hnif : (ms == bIf) = false := by
    rcases op_cases (show (xTwo ms || xOne ms) = true by rw [hop]; rfl) with h1 | h1 | h1 | h1 | h1 | h1 | h1 | h1 | h1 | h1 | h1 <;> rw [h1] <;> rfl
  have hif : (ms == [105, 102]) = false := hnif
  obtain ⟨d, off, rfl, hd, k0, k1, k2, k3⟩ := Es.cell hs (i := 0) (x := a) rfl
  obtain ⟨d', off', e', _, l0, l1, l2, l3⟩ := Es.cell hs (i := 1) (x := b) rfl
  injection e' with e'
  injection e' with e1 e2 _
  subst e1
  subst e2
  have hcap := hs.le
  simp only [Nat.zero_mul, Nat.add_zero, Nat.one_mul] at k0 k1 k2 k3 l0 l1 l2 l3
  unfold EvAt2 ev_ M.kv at ha hb
  unfold M.kv at k3 l3
  generalize xEval cols r a.t = ra at *
  generalize xEval cols r b.t = rb at *
  obtain ⟨⟨ka, na, sa⟩, ya⟩ := ra
  obtain ⟨⟨kb, nb, sb⟩, yb⟩ := rb
  have HAK := Lib.hid ha
  have HBK := Lib.hid hb
  obtain ⟨w0, hw0, hE0, hX, hB⟩ := bx_ev w (.int .i64 4) (.string ⟨ms.toArray⟩) (.int .i64 mn) (.slice (some ⟨d, off, none⟩) 2 cap3)
  have HE := Lib.hid hE0
  have HX := Lib.hid hX
  have HB := Lib.hid hB
  have HCa := Lib.hid (fun w1 (hE : Ev w w1) => And.intro ((hE.cell (p := ⟨d, off, none⟩) hd).trans k0) (And.intro ((hE.cell (p := ⟨d, off + 1, none⟩) hd).trans k1) (And.intro ((hE.cell (p := ⟨d, off + 2, none⟩) hd).trans k2) ((hE.cell (p := ⟨d, off + 3, none⟩) hd).trans k3))))
  have HCb := Lib.hid (fun w1 (hE : Ev w w1) => And.intro ((hE.cell (p := ⟨d, off + 4, none⟩) hd).trans l0) (And.intro ((hE.cell (p := ⟨d, off + 4 + 1, none⟩) hd).trans l1) (And.intro ((hE.cell (p := ⟨d, off + 4 + 2, none⟩) hd).trans l2) ((hE.cell (p := ⟨d, off + 4 + 3, none⟩) hd).trans l3))))
  obtain ⟨⟨x0, x1, x2, x3⟩, _⟩ := hX.four
  obtain ⟨⟨c0, c1, c2⟩, f0, f1, f2⟩ := hB.three
  obtain ⟨k0_, k1_, k2_, k3_⟩ := HCa.out _ hE0
  clear ha hb hs hE0 hX hB k0 k1 k2 k3 l0 l1 l2 l3
  simp only at hfa hfb
  unfold fairV at hfa hfb
  simp only at hfa hfb
  have hfa1 := Lib.hid hfa.1
  have hfb1 := Lib.hid hfb.1
  have hfa2 := hfa.2
  have hfb2 := hfb.2
  have HOP := Lib.hid hop
  clear hfa hfb hnif hop
  by_cases hya : ya = 0
  · subst hya
    by_cases hyb : yb = 0
    · subst hyb
      have HK : Hid (xEvalsGo ms [] [((ka, na, sa), (0 : Int)), ((kb, nb, sb), 0)] = xPerform ms (ka, na, sa) (kb, nb, sb)) := Lib.hid rfl
      rw [HK.out]
      go_enter Try.func37, Try.ntmps37
      go_upto_if 93 with (first
        | ((with_reducible refine (HAK.out _ HE.out).mono ?_); rintro e w1 ⟨rfl, hE1⟩; have E1 := Lib.hid ((hE1.trans (Ev.alloc w1 (.cells #[.int .i64 ka, .int .i64 na, .string sa] 25))).trans (Ev.alloc _ (.cells #[.int .i64 0, .int .i64 0, .string ⟨#[]⟩] 25))); clear x0 x1 x2 x3; obtain ⟨⟨i0_, i1_, i2_, i3_⟩, _⟩ := (HX.out.ev (hE1.trans (Ev.alloc w1 (.cells #[.int .i64 ka, .int .i64 na, .string sa] 25)))).four; obtain ⟨⟨x0, x1, x2, x3⟩, _⟩ := (HX.out.ev E1.out).four; obtain ⟨l0_, l1_, l2_, l3_⟩ := HCb.out _ (HE.out.trans E1.out))
        | ((with_reducible refine (HBK.out _ (HE.out.trans E1.out)).mono ?_); rintro e w2 ⟨rfl, hE2⟩; have S := EvS.stored kb nb sb HE.out HX.out HB.out hE1 hE2; have hgl : w.heap.size + 1 < w1.heap.size := Nat.lt_of_lt_of_le HB.out.lt hE1.size; have hbb : Bx 25 (w1.heap.size + 1) #[.int .i64 0, .int .i64 0, .string ⟨#[]⟩] w2 := (by have := (vbox (w1.alloc (.cells #[.int .i64 ka, .int .i64 na, .string sa] 25))).ev hE2; simpa using this); obtain ⟨⟨z0, z1, z2⟩, g0, g1, g2⟩ := hbb.three))
      (try rw [set3_fold])
      (try clear i0_ i1_ i2_ i3_)
      generalize hwz : set3 (w1.heap.size + 1) (.int .i64 kb) (.int .i64 nb) (.string sb) w2 = wz at *
      clear hwz z0 z1 z2 g0 g1 g2 x0 x1 x2 x3 c0 c1 c2 f0 f1 f2 k0_ k1_ k2_ k3_ l0_ l1_ l2_ l3_ hbb E1
      generalize w1.heap.size = ga at *
      obtain ⟨⟨x0, x1, x2, x3⟩, _⟩ := S.x.four
      obtain ⟨⟨c0, c1, c2⟩, f0, f1, f2⟩ := S.r.three
      obtain ⟨⟨p0, p1, p2⟩, _⟩ := S.a.three
      obtain ⟨⟨q0, q1, q2⟩, _⟩ := S.b.three
      have hops : ms = bAdd ∨ ms = bSub ∨ ms = bMul ∨ ms = bEq ∨ ms = bLt ∨ ms = bAnd ∨ ms = bOr ∨ ms = bCat := by
        have h := HOP.out
        unfold xTwo at h
        simp only [Bool.or_eq_true, beq_iff_eq] at h
        rcases h with ((((((h1 | h1) | h1) | h1) | h1) | h1) | h1) | h1 <;> simp [h1]
      clear hif HOP
      rcases hops with h1 | h1 | h1 | h1 | h1 | h1 | h1 | h1
      · subst h1
        have HSM := Lib.hid (fun w1 => rx_sumAdd na nb hfa1.out hfb1.out w1)
        have HN := Lib.hid (fun n w1 => rx_num n w1)
        have HP0 : Hid (xPerform bAdd (ka, na, sa) (kb, nb, sb) = xFit (na + nb)) := Lib.hid rfl
        unfold bstr SumOut at HSM
        obtain ⟨X, hX⟩ : ∃ X, X = na + nb := ⟨_, rfl⟩
        rw [← hX] at HSM HP0
        simp only [bAdd] at *
        clear hX
        by_cases hR : i64R X
        · have HR := Lib.hid hR
          have HF : Hid (xFit X = (vNum X, 0)) := Lib.hid (by unfold xFit; exact if_pos hR)
          rw [decide_eq_true hR] at HSM
          have HV := Lib.hid (HP0.out.trans HF.out)
          clear hR
          go_wp2_with (first
            | ((with_reducible refine (HSM.out _).mono ?_); rintro e w3 ⟨nn, rfl, hnn, rfl⟩; obtain rfl := hnn HR.out)
            | ((with_reducible refine (HN.out _ _).mono ?_); rintro e w4 ⟨rfl, hE⟩; replace S := S.ev hE; clear p0 p1 p2 q0 q1 q2 c0 c1 c2 f0 f1 f2 x0 x1 x2 x3; obtain ⟨⟨x0, x1, x2, x3⟩, _⟩ := S.x.four; obtain ⟨⟨c0, c1, c2⟩, f0, f1, f2⟩ := S.r.three; obtain ⟨⟨p0, p1, p2⟩, _⟩ := S.a.three; obtain ⟨⟨q0, q1, q2⟩, _⟩ := S.b.three))
          (try simp only [Exit.inBlock, Exit.then])
          rw [set3_fold]
          refine bodyPost_ret (results_cellt rfl _ _ _ _ _ rfl (S.r.set3 _ _ _) Try.underlying25 rfl Try.sizeVal) rfl ?_
          exact ⟨by rw [HV.out]; rfl, S.all.box (set3_but _ _ _ _ _) (by omega)⟩
        · have HR := Lib.hid hR
          have HF : Hid (xFit X = (v0, 26)) := Lib.hid (by unfold xFit; exact if_neg hR)
          rw [decide_eq_false hR] at HSM
          have HV := Lib.hid (HP0.out.trans HF.out)
          clear hR
          go_wp2_with (first
            | ((with_reducible refine (HSM.out _).mono ?_); rintro e w3 ⟨nn, rfl, hnn, rfl⟩))
          (try simp only [Exit.inBlock, Exit.then])
          rw [set3_fold]
          refine bodyPost_ret (results_cellt rfl _ _ _ _ _ rfl (S.r.set3 _ _ _) Try.underlying25 rfl Try.sizeVal) rfl ?_
          exact ⟨by rw [HV.out]; rfl, S.all.box (set3_but _ _ _ _ _) (by omega)⟩
      · subst h1
        have HSM := Lib.hid (fun w1 => rx_sumSub na nb hfa1.out hfb1.out w1)
        have HN := Lib.hid (fun n w1 => rx_num n w1)
        have HP0 : Hid (xPerform bSub (ka, na, sa) (kb, nb, sb) = xFit (na - nb)) := Lib.hid rfl
        unfold bstr SumOut at HSM
        obtain ⟨X, hX⟩ : ∃ X, X = na - nb := ⟨_, rfl⟩
        rw [← hX] at HSM HP0
        simp only [bSub] at *
        clear hX
        by_cases hR : i64R X
        · have HR := Lib.hid hR
          have HF : Hid (xFit X = (vNum X, 0)) := Lib.hid (by unfold xFit; exact if_pos hR)
          rw [decide_eq_true hR] at HSM
          have HV := Lib.hid (HP0.out.trans HF.out)
          clear hR
          go_wp2_with (first
            | ((with_reducible refine (HSM.out _).mono ?_); rintro e w3 ⟨nn, rfl, hnn, rfl⟩; obtain rfl := hnn HR.out)
            | ((with_reducible refine (HN.out _ _).mono ?_); rintro e w4 ⟨rfl, hE⟩; replace S := S.ev hE; clear p0 p1 p2 q0 q1 q2 c0 c1 c2 f0 f1 f2 x0 x1 x2 x3; obtain ⟨⟨x0, x1, x2, x3⟩, _⟩ := S.x.four; obtain ⟨⟨c0, c1, c2⟩, f0, f1, f2⟩ := S.r.three; obtain ⟨⟨p0, p1, p2⟩, _⟩ := S.a.three; obtain ⟨⟨q0, q1, q2⟩, _⟩ := S.b.three))
          (try simp only [Exit.inBlock, Exit.then])
          rw [set3_fold]
          refine bodyPost_ret (results_cellt rfl _ _ _ _ _ rfl (S.r.set3 _ _ _) Try.underlying25 rfl Try.sizeVal) rfl ?_
          exact ⟨by rw [HV.out]; rfl, S.all.box (set3_but _ _ _ _ _) (by omega)⟩
        · have HR := Lib.hid hR
          have HF : Hid (xFit X = (v0, 26)) := Lib.hid (by unfold xFit; exact if_neg hR)
          rw [decide_eq_false hR] at HSM
          have HV := Lib.hid (HP0.out.trans HF.out)
          clear hR
          go_wp2_with (first
            | ((with_reducible refine (HSM.out _).mono ?_); rintro e w3 ⟨nn, rfl, hnn, rfl⟩))
          (try simp only [Exit.inBlock, Exit.then])
          rw [set3_fold]
          refine bodyPost_ret (results_cellt rfl _ _ _ _ _ rfl (S.r.set3 _ _ _) Try.underlying25 rfl Try.sizeVal) rfl ?_
          exact ⟨by rw [HV.out]; rfl, S.all.box (set3_but _ _ _ _ _) (by omega)⟩
      · subst h1
        have HSM := Lib.hid (fun w1 => rx_sumMul na nb hfa1.out hfb1.out w1)
        have HN := Lib.hid (fun n w1 => rx_num n w1)
        have HP0 : Hid (xPerform bMul (ka, na, sa) (kb, nb, sb) = xFit (na * nb)) := Lib.hid rfl
        unfold bstr SumOut at HSM
        obtain ⟨X, hX⟩ : ∃ X, X = na * nb := ⟨_, rfl⟩
        rw [← hX] at HSM HP0
        simp only [bMul] at *
        clear hX
        by_cases hR : i64R X
        · have HR := Lib.hid hR
          have HF : Hid (xFit X = (vNum X, 0)) := Lib.hid (by unfold xFit; exact if_pos hR)
          rw [decide_eq_true hR] at HSM
          have HV := Lib.hid (HP0.out.trans HF.out)
          clear hR
          go_wp2_with (first
            | ((with_reducible refine (HSM.out _).mono ?_); rintro e w3 ⟨nn, rfl, hnn, rfl⟩; obtain rfl := hnn HR.out)
            | ((with_reducible refine (HN.out _ _).mono ?_); rintro e w4 ⟨rfl, hE⟩; replace S := S.ev hE; clear p0 p1 p2 q0 q1 q2 c0 c1 c2 f0 f1 f2 x0 x1 x2 x3; obtain ⟨⟨x0, x1, x2, x3⟩, _⟩ := S.x.four; obtain ⟨⟨c0, c1, c2⟩, f0, f1, f2⟩ := S.r.three; obtain ⟨⟨p0, p1, p2⟩, _⟩ := S.a.three; obtain ⟨⟨q0, q1, q2⟩, _⟩ := S.b.three))
          (try simp only [Exit.inBlock, Exit.then])
          rw [set3_fold]
          refine bodyPost_ret (results_cellt rfl _ _ _ _ _ rfl (S.r.set3 _ _ _) Try.underlying25 rfl Try.sizeVal) rfl ?_
          exact ⟨by rw [HV.out]; rfl, S.all.box (set3_but _ _ _ _ _) (by omega)⟩
        · have HR := Lib.hid hR
          have HF : Hid (xFit X = (v0, 26)) := Lib.hid (by unfold xFit; exact if_neg hR)
          rw [decide_eq_false hR] at HSM
          have HV := Lib.hid (HP0.out.trans HF.out)
          clear hR
          go_wp2_with (first
            | ((with_reducible refine (HSM.out _).mono ?_); rintro e w3 ⟨nn, rfl, hnn, rfl⟩))
          (try simp only [Exit.inBlock, Exit.then])
          rw [set3_fold]
          refine bodyPost_ret (results_cellt rfl _ _ _ _ _ rfl (S.r.set3 _ _ _) Try.underlying25 rfl Try.sizeVal) rfl ?_
          exact ⟨by rw [HV.out]; rfl, S.all.box (set3_but _ _ _ _ _) (by omega)⟩
      · subst h1
        have HL1 := Lib.hid (fun w1 => refr_less ka na sa kb nb sb w1)
        have HL2 := Lib.hid (fun w1 => refr_less kb nb sb ka na sa w1)
        have HT := Lib.hid (fun b w1 => rx_truth b w1)
        have HV : Hid (xPerform bEq (ka, na, sa) (kb, nb, sb) = xTruth (!lessV ka na sa kb nb sb && !lessV kb nb sb ka na sa)) := Lib.hid rfl
        generalize lessV ka na sa kb nb sb = u1 at *
        generalize lessV kb nb sb ka na sa = u2 at *
        simp only [bEq] at *
        cases u1
        · cases u2 <;> (
            go_wp2_with (first
              | ((with_reducible refine (HL1.out _).mono ?_); rintro e w3 ⟨rfl, hE⟩; replace S := S.ev hE; clear p0 p1 p2 q0 q1 q2 c0 c1 c2 f0 f1 f2 x0 x1 x2 x3; obtain ⟨⟨x0, x1, x2, x3⟩, _⟩ := S.x.four; obtain ⟨⟨c0, c1, c2⟩, f0, f1, f2⟩ := S.r.three; obtain ⟨⟨p0, p1, p2⟩, _⟩ := S.a.three; obtain ⟨⟨q0, q1, q2⟩, _⟩ := S.b.three)
              | ((with_reducible refine (HL2.out _).mono ?_); rintro e w4 ⟨rfl, hE⟩; replace S := S.ev hE; clear p0 p1 p2 q0 q1 q2 c0 c1 c2 f0 f1 f2 x0 x1 x2 x3; obtain ⟨⟨x0, x1, x2, x3⟩, _⟩ := S.x.four; obtain ⟨⟨c0, c1, c2⟩, f0, f1, f2⟩ := S.r.three; obtain ⟨⟨p0, p1, p2⟩, _⟩ := S.a.three; obtain ⟨⟨q0, q1, q2⟩, _⟩ := S.b.three)
              | ((with_reducible refine (HT.out _ _).mono ?_); rintro e w5 ⟨rfl, hE⟩; replace S := S.ev hE; clear p0 p1 p2 q0 q1 q2 c0 c1 c2 f0 f1 f2 x0 x1 x2 x3; obtain ⟨⟨x0, x1, x2, x3⟩, _⟩ := S.x.four; obtain ⟨⟨c0, c1, c2⟩, f0, f1, f2⟩ := S.r.three; obtain ⟨⟨p0, p1, p2⟩, _⟩ := S.a.three; obtain ⟨⟨q0, q1, q2⟩, _⟩ := S.b.three))
            (try simp only [Exit.inBlock, Exit.then])
            rw [set3_fold]
            refine bodyPost_ret (results_cellt rfl _ _ _ _ _ rfl (S.r.set3 _ _ _) Try.underlying25 rfl Try.sizeVal) rfl ?_
            exact ⟨by rw [HV.out]; rfl, S.all.box (set3_but _ _ _ _ _) (by omega)⟩
            )
        · go_wp2_with (first
            | ((with_reducible refine (HL1.out _).mono ?_); rintro e w3 ⟨rfl, hE⟩; replace S := S.ev hE; clear p0 p1 p2 q0 q1 q2 c0 c1 c2 f0 f1 f2 x0 x1 x2 x3; obtain ⟨⟨x0, x1, x2, x3⟩, _⟩ := S.x.four; obtain ⟨⟨c0, c1, c2⟩, f0, f1, f2⟩ := S.r.three; obtain ⟨⟨p0, p1, p2⟩, _⟩ := S.a.three; obtain ⟨⟨q0, q1, q2⟩, _⟩ := S.b.three)
            | ((with_reducible refine (HT.out _ _).mono ?_); rintro e w5 ⟨rfl, hE⟩; replace S := S.ev hE; clear p0 p1 p2 q0 q1 q2 c0 c1 c2 f0 f1 f2 x0 x1 x2 x3; obtain ⟨⟨x0, x1, x2, x3⟩, _⟩ := S.x.four; obtain ⟨⟨c0, c1, c2⟩, f0, f1, f2⟩ := S.r.three; obtain ⟨⟨p0, p1, p2⟩, _⟩ := S.a.three; obtain ⟨⟨q0, q1, q2⟩, _⟩ := S.b.three))
          (try simp only [Exit.inBlock, Exit.then])
          rw [set3_fold]
          refine bodyPost_ret (results_cellt rfl _ _ _ _ _ rfl (S.r.set3 _ _ _) Try.underlying25 rfl Try.sizeVal) rfl ?_
          exact ⟨by rw [HV.out]; cases u2 <;> rfl, S.all.box (set3_but _ _ _ _ _) (by omega)⟩
      · subst h1
        have HL1 := Lib.hid (fun w1 => refr_less ka na sa kb nb sb w1)
        have HL2 := Lib.hid (fun w1 => refr_less kb nb sb ka na sa w1)
        have HT := Lib.hid (fun b w1 => rx_truth b w1)
        have HV : Hid (xPerform bLt (ka, na, sa) (kb, nb, sb) = xTruth (lessV ka na sa kb nb sb)) := Lib.hid rfl
        generalize lessV ka na sa kb nb sb = u1 at *
        simp only [bLt] at *
        cases u1 <;> (
          go_wp2_with (first
            | ((with_reducible refine (HL1.out _).mono ?_); rintro e w3 ⟨rfl, hE⟩; replace S := S.ev hE; clear p0 p1 p2 q0 q1 q2 c0 c1 c2 f0 f1 f2 x0 x1 x2 x3; obtain ⟨⟨x0, x1, x2, x3⟩, _⟩ := S.x.four; obtain ⟨⟨c0, c1, c2⟩, f0, f1, f2⟩ := S.r.three; obtain ⟨⟨p0, p1, p2⟩, _⟩ := S.a.three; obtain ⟨⟨q0, q1, q2⟩, _⟩ := S.b.three)
            | ((with_reducible refine (HT.out _ _).mono ?_); rintro e w5 ⟨rfl, hE⟩; replace S := S.ev hE; clear p0 p1 p2 q0 q1 q2 c0 c1 c2 f0 f1 f2 x0 x1 x2 x3; obtain ⟨⟨x0, x1, x2, x3⟩, _⟩ := S.x.four; obtain ⟨⟨c0, c1, c2⟩, f0, f1, f2⟩ := S.r.three; obtain ⟨⟨p0, p1, p2⟩, _⟩ := S.a.three; obtain ⟨⟨q0, q1, q2⟩, _⟩ := S.b.three))
          (try simp only [Exit.inBlock, Exit.then])
          rw [set3_fold]
          refine bodyPost_ret (results_cellt rfl _ _ _ _ _ rfl (S.r.set3 _ _ _) Try.underlying25 rfl Try.sizeVal) rfl ?_
          exact ⟨by rw [HV.out]; rfl, S.all.box (set3_but _ _ _ _ _) (by omega)⟩
          )
      · subst h1
        have HT := Lib.hid (fun b w1 => rx_truth b w1)
        have HV : Hid (xPerform bAnd (ka, na, sa) (kb, nb, sb) = xTruth (!(na == 0) && !(nb == 0))) := Lib.hid rfl
        simp only [bAnd] at *
        have hcase : ∀ n : Int, ((n == 0) = true ∧ (n != 0) = false) ∨ ((n == 0) = false ∧ (n != 0) = true) := fun n => by
          by_cases h : n = 0
          · exact .inl ⟨beq_iff_eq.2 h, by simp [h]⟩
          · exact .inr ⟨beq_eq_false_iff_ne.2 h, by simp [h]⟩
        rcases hcase na with ⟨g1, g2⟩ | ⟨g1, g2⟩ <;> rcases hcase nb with ⟨g3, g4⟩ | ⟨g3, g4⟩ <;> (
          rw [g1, g3] at HV
          clear hcase
          go_wp2_with (first
            | ((with_reducible refine (HT.out _ _).mono ?_); rintro e w5 ⟨rfl, hE⟩; replace S := S.ev hE; clear p0 p1 p2 q0 q1 q2 c0 c1 c2 f0 f1 f2 x0 x1 x2 x3; obtain ⟨⟨x0, x1, x2, x3⟩, _⟩ := S.x.four; obtain ⟨⟨c0, c1, c2⟩, f0, f1, f2⟩ := S.r.three; obtain ⟨⟨p0, p1, p2⟩, _⟩ := S.a.three; obtain ⟨⟨q0, q1, q2⟩, _⟩ := S.b.three))
          (try simp only [Exit.inBlock, Exit.then])
          rw [set3_fold]
          refine bodyPost_ret (results_cellt rfl _ _ _ _ _ rfl (S.r.set3 _ _ _) Try.underlying25 rfl Try.sizeVal) rfl ?_
          exact ⟨by rw [HV.out]; rfl, S.all.box (set3_but _ _ _ _ _) (by omega)⟩
          )
      · subst h1
        have HT := Lib.hid (fun b w1 => rx_truth b w1)
        have HV : Hid (xPerform bOr (ka, na, sa) (kb, nb, sb) = xTruth (!(na == 0) || !(nb == 0))) := Lib.hid rfl
        simp only [bOr] at *
        have hcase : ∀ n : Int, ((n == 0) = true ∧ (n != 0) = false) ∨ ((n == 0) = false ∧ (n != 0) = true) := fun n => by
          by_cases h : n = 0
          · exact .inl ⟨beq_iff_eq.2 h, by simp [h]⟩
          · exact .inr ⟨beq_eq_false_iff_ne.2 h, by simp [h]⟩
        rcases hcase na with ⟨g1, g2⟩ | ⟨g1, g2⟩ <;> rcases hcase nb with ⟨g3, g4⟩ | ⟨g3, g4⟩ <;> (
          rw [g1, g3] at HV
          clear hcase
          go_wp2_with (first
            | ((with_reducible refine (HT.out _ _).mono ?_); rintro e w5 ⟨rfl, hE⟩; replace S := S.ev hE; clear p0 p1 p2 q0 q1 q2 c0 c1 c2 f0 f1 f2 x0 x1 x2 x3; obtain ⟨⟨x0, x1, x2, x3⟩, _⟩ := S.x.four; obtain ⟨⟨c0, c1, c2⟩, f0, f1, f2⟩ := S.r.three; obtain ⟨⟨p0, p1, p2⟩, _⟩ := S.a.three; obtain ⟨⟨q0, q1, q2⟩, _⟩ := S.b.three))
          (try simp only [Exit.inBlock, Exit.then])
          rw [set3_fold]
          refine bodyPost_ret (results_cellt rfl _ _ _ _ _ rfl (S.r.set3 _ _ _) Try.underlying25 rfl Try.sizeVal) rfl ?_
          exact ⟨by rw [HV.out]; rfl, S.all.box (set3_but _ _ _ _ _) (by omega)⟩
          )
      · subst h1
        have HP0 : Hid (xPerform bCat (ka, na, sa) (kb, nb, sb) = (if sa.size + sb.size ≤ 40 then (vStr (sa ++ sb), 0) else (v0, 3))) := Lib.hid rfl
        simp only [bCat] at *
        by_cases h40 : sa.size + sb.size ≤ 40
        · have HV := Lib.hid (HP0.out.trans (if_pos h40))
          have i1 : ¬ ((40 : Int) < (sa.size : Int) + (sb.size : Int)) := by omega
          go_wp2
          (try simp only [Exit.inBlock, Exit.then])
          rw [set3_fold]
          refine bodyPost_ret (results_cellt rfl _ _ _ _ _ rfl (S.r.set3 _ _ _) Try.underlying25 rfl Try.sizeVal) rfl ?_
          exact ⟨by rw [HV.out]; rfl, S.all.box (set3_but _ _ _ _ _) (by omega)⟩
        · have HV := Lib.hid (HP0.out.trans (if_neg h40))
          have i1 : (40 : Int) < (sa.size : Int) + (sb.size : Int) := by omega
          go_wp2
          (try simp only [Exit.inBlock, Exit.then])
          rw [set3_fold]
          refine bodyPost_ret (results_cellt rfl _ _ _ _ _ rfl (S.r.set3 _ _ _) Try.underlying25 rfl Try.sizeVal) rfl ?_
          exact ⟨by rw [HV.out]; rfl, S.all.box (set3_but _ _ _ _ _) (by omega)⟩
    · have hybb : (yb == 0) = false := beq_eq_false_iff_ne.2 hyb
      have hybn : (yb != 0) = true := by simp [hyb]
      have HK : Hid (xEvalsGo ms [] [((ka, na, sa), (0 : Int)), ((kb, nb, sb), yb)] = (v0, yb)) := Lib.hid (by simp only [xEvalsGo, hybb, beq_self_eq_true, if_true, Bool.false_eq_true, if_false])
      rw [HK.out]
      go_enter Try.func37, Try.ntmps37
      go_upto_if 93 with (first
        | ((with_reducible refine (HAK.out _ HE.out).mono ?_); rintro e w1 ⟨rfl, hE1⟩; have E1 := Lib.hid ((hE1.trans (Ev.alloc w1 (.cells #[.int .i64 ka, .int .i64 na, .string sa] 25))).trans (Ev.alloc _ (.cells #[.int .i64 0, .int .i64 0, .string ⟨#[]⟩] 25))); clear x0 x1 x2 x3; obtain ⟨⟨i0_, i1_, i2_, i3_⟩, _⟩ := (HX.out.ev (hE1.trans (Ev.alloc w1 (.cells #[.int .i64 ka, .int .i64 na, .string sa] 25)))).four; obtain ⟨⟨x0, x1, x2, x3⟩, _⟩ := (HX.out.ev E1.out).four; obtain ⟨l0_, l1_, l2_, l3_⟩ := HCb.out _ (HE.out.trans E1.out))
        | ((with_reducible refine (HBK.out _ (HE.out.trans E1.out)).mono ?_); rintro e w2 ⟨rfl, hE2⟩; have S := EvS.stored kb nb sb HE.out HX.out HB.out hE1 hE2; have hgl : w.heap.size + 1 < w1.heap.size := Nat.lt_of_lt_of_le HB.out.lt hE1.size; have hbb : Bx 25 (w1.heap.size + 1) #[.int .i64 0, .int .i64 0, .string ⟨#[]⟩] w2 := (by have := (vbox (w1.alloc (.cells #[.int .i64 ka, .int .i64 na, .string sa] 25))).ev hE2; simpa using this); obtain ⟨⟨z0, z1, z2⟩, g0, g1, g2⟩ := hbb.three))
      (try rw [set3_fold])
      (try clear i0_ i1_ i2_ i3_)
      generalize hwz : set3 (w1.heap.size + 1) (.int .i64 kb) (.int .i64 nb) (.string sb) w2 = wz at *
      clear hwz z0 z1 z2 g0 g1 g2 x0 x1 x2 x3 c0 c1 c2 f0 f1 f2 k0_ k1_ k2_ k3_ l0_ l1_ l2_ l3_ hbb E1
      generalize w1.heap.size = ga at *
      obtain ⟨⟨c0, c1, c2⟩, f0, f1, f2⟩ := S.r.three
      go_wp2
      (try simp only [Exit.inBlock, Exit.then])
      rw [set3_fold]
      refine bodyPost_ret (results_cellt rfl _ _ _ _ _ rfl (S.r.set3 _ _ _) Try.underlying25 rfl Try.sizeVal) rfl ?_
      exact ⟨rfl, S.all.box (set3_but _ _ _ _ _) (by omega)⟩
  · have hyab : (ya == 0) = false := beq_eq_false_iff_ne.2 hya
    have hyan : (ya != 0) = true := by simp [hya]
    have HK : Hid (xEvalsGo ms [] [((ka, na, sa), ya), ((kb, nb, sb), yb)] = (v0, ya)) := Lib.hid (by simp only [xEvalsGo, hyab, Bool.false_eq_true, if_false])
    go_enter Try.func37, Try.ntmps37
    go_wp2_with (first
      | ((with_reducible refine (HAK.out _ HE.out).mono ?_); rintro e w1 ⟨rfl, hE1⟩; have E1 := Lib.hid (HE.out.trans hE1); have B1 := Lib.hid (HB.out.ev (hE1.trans (Ev.alloc w1 (.cells #[.int .i64 ka, .int .i64 na, .string sa] 25)))); clear c0 c1 c2 f0 f1 f2; obtain ⟨⟨c0, c1, c2⟩, f0, f1, f2⟩ := B1.out.three))
    (try simp only [Exit.inBlock, Exit.then])
    rw [set3_fold]
    refine bodyPost_ret (results_cellt rfl _ _ _ _ _ rfl (B1.out.set3 _ _ _) Try.underlying25 rfl Try.sizeVal) rfl ?_
    exact ⟨by rw [HK.out]; rfl, (E1.out.trans (Ev.alloc w1 _)).box (set3_but _ _ _ _ _) (by omega)⟩

set_option maxRecDepth 100000 in
set_option maxHeartbeats 16000000 in
theorem rx_evalOne {A B D : Option Addr} {n cap n2 cap2 cap3 : Nat} {cols : List C} {r : List V} (w : World) (ms : By) (mn : Int) (a : M) (hs : Es w D 1 cap3 [a]) (ha : EvAt2 A n cap cols B n2 cap2 r w a) (hop : xOne ms = true) (hfa : fairV (xEval cols r a.t).1) :
    Calls Try.prog 37 #[.agg #[.int .i64 4, .string ⟨ms.toArray⟩, .int .i64 mn, .slice D 1 cap3], .slice A n cap, .slice B n2 cap2] w (VOut (xEvalsGo ms [] [xEval cols r a.t]) w) := by
  have hnif : (ms == bIf) = false := by
    rcases op_cases (show (xTwo ms || xOne ms) = true by rw [hop, Bool.or_true]) with h1 | h1 | h1 | h1 | h1 | h1 | h1 | h1 | h1 | h1 | h1 <;> rw [h1] <;> rfl
  have hif : (ms == [105, 102]) = false := hnif
  obtain ⟨d, off, rfl, hd, k0, k1, k2, k3⟩ := Es.cell hs (i := 0) (x := a) rfl
  have hcap := hs.le
  simp only [Nat.zero_mul, Nat.add_zero] at k0 k1 k2 k3
  unfold EvAt2 ev_ M.kv at ha
  unfold M.kv at k3
  generalize xEval cols r a.t = ra at *
  obtain ⟨⟨ka, na, sa⟩, ya⟩ := ra
  have HAK := Lib.hid ha
  obtain ⟨w0, hw0, hE0, hX, hB⟩ := bx_ev w (.int .i64 4) (.string ⟨ms.toArray⟩) (.int .i64 mn) (.slice (some ⟨d, off, none⟩) 1 cap3)
  have HE := Lib.hid hE0
  have HX := Lib.hid hX
  have HB := Lib.hid hB
  have HCa := Lib.hid (fun w1 (hE : Ev w w1) => And.intro ((hE.cell (p := ⟨d, off, none⟩) hd).trans k0) (And.intro ((hE.cell (p := ⟨d, off + 1, none⟩) hd).trans k1) (And.intro ((hE.cell (p := ⟨d, off + 2, none⟩) hd).trans k2) ((hE.cell (p := ⟨d, off + 3, none⟩) hd).trans k3))))
  obtain ⟨⟨x0, x1, x2, x3⟩, _⟩ := hX.four
  obtain ⟨⟨c0, c1, c2⟩, f0, f1, f2⟩ := hB.three
  obtain ⟨k0_, k1_, k2_, k3_⟩ := HCa.out _ hE0
  clear ha hs hE0 hX hB k0 k1 k2 k3
  simp only at hfa
  unfold fairV at hfa
  simp only at hfa
  have hfa1 := Lib.hid hfa.1
  have hfa2 := hfa.2
  have HOP := Lib.hid hop
  clear hfa hnif hop
  by_cases hya : ya = 0
  · subst hya
    have HK : Hid (xEvalsGo ms [] [((ka, na, sa), (0 : Int))] = xPerform ms (ka, na, sa) (ka, na, sa)) := Lib.hid rfl
    rw [HK.out]
    have hops : ms = bNeg ∨ ms = bNot ∨ ms = bLen := by
      have h := HOP.out
      unfold xOne at h
      simp only [Bool.or_eq_true, beq_iff_eq] at h
      rcases h with (h1 | h1) | h1 <;> simp [h1]
    have HFIRST := HAK
    clear HOP hif
    rcases hops with h1 | h1 | h1
    · subst h1
      have HSM := Lib.hid (fun w1 => rx_sumNeg na 0 hfa1.out w1)
      have HN := Lib.hid (fun n w1 => rx_num n w1)
      have HP0 : Hid (xPerform bNeg (ka, na, sa) (ka, na, sa) = xFit (-na)) := Lib.hid rfl
      unfold bstr SumOut at HSM
      obtain ⟨X, hX⟩ : ∃ X, X = -na := ⟨_, rfl⟩
      rw [← hX] at HSM HP0
      simp only [bNeg] at *
      clear hX
      by_cases hR : i64R X
      · have HR := Lib.hid hR
        have HF : Hid (xFit X = (vNum X, 0)) := Lib.hid (by unfold xFit; exact if_pos hR)
        rw [decide_eq_true hR] at HSM
        have HV := Lib.hid (HP0.out.trans HF.out)
        clear hR
        go_enter Try.func37, Try.ntmps37
        go_wp2_with (first
          | ((with_reducible refine (HAK.out _ HE.out).mono ?_); rintro e w1 ⟨rfl, hE1⟩; have E1 := Lib.hid ((hE1.trans (Ev.alloc w1 (.cells #[.int .i64 ka, .int .i64 na, .string sa] 25))).trans (Ev.alloc _ (.cells #[.int .i64 0, .int .i64 0, .string ⟨#[]⟩] 25))); have hA0 := (Bx.new 25 #[.int .i64 ka, .int .i64 na, .string sa] w1).ev (Ev.alloc _ (.cells #[.int .i64 0, .int .i64 0, .string ⟨#[]⟩] 25)); have hZ0 : Bx 25 (w1.heap.size + 1) #[.int .i64 0, .int .i64 0, .string ⟨#[]⟩] ((w1.alloc (.cells #[.int .i64 ka, .int .i64 na, .string sa] 25)).alloc (.cells #[.int .i64 0, .int .i64 0, .string ⟨#[]⟩] 25)) := (by have := vbox (w1.alloc (.cells #[.int .i64 ka, .int .i64 na, .string sa] 25)); simpa using this); have S : EvS w w1.heap.size (w1.heap.size + 1) _ (ka, na, sa) (0, 0, ⟨#[]⟩) _ := ⟨HX.out.ev E1.out, HB.out.ev E1.out, hA0, hZ0, HE.out.trans E1.out⟩; clear x0 x1 x2 x3 c0 c1 c2 f0 f1 f2; obtain ⟨⟨i0_, i1_, i2_, i3_⟩, _⟩ := (HX.out.ev (hE1.trans (Ev.alloc w1 (.cells #[.int .i64 ka, .int .i64 na, .string sa] 25)))).four; obtain ⟨⟨x0, x1, x2, x3⟩, _⟩ := S.x.four; obtain ⟨⟨c0, c1, c2⟩, f0, f1, f2⟩ := S.r.three; obtain ⟨⟨p0, p1, p2⟩, _⟩ := S.a.three; obtain ⟨⟨q0, q1, q2⟩, _⟩ := S.b.three)
          | ((with_reducible refine (HSM.out _).mono ?_); rintro e w3 ⟨nn, rfl, hnn, rfl⟩; obtain rfl := hnn HR.out)
          | ((with_reducible refine (HN.out _ _).mono ?_); rintro e w4 ⟨rfl, hE⟩; replace S := S.ev hE; clear p0 p1 p2 q0 q1 q2 c0 c1 c2 f0 f1 f2 x0 x1 x2 x3; obtain ⟨⟨x0, x1, x2, x3⟩, _⟩ := S.x.four; obtain ⟨⟨c0, c1, c2⟩, f0, f1, f2⟩ := S.r.three; obtain ⟨⟨p0, p1, p2⟩, _⟩ := S.a.three; obtain ⟨⟨q0, q1, q2⟩, _⟩ := S.b.three))
        (try simp only [Exit.inBlock, Exit.then])
        rw [set3_fold]
        refine bodyPost_ret (results_cellt rfl _ _ _ _ _ rfl (S.r.set3 _ _ _) Try.underlying25 rfl Try.sizeVal) rfl ?_
        exact ⟨by rw [HV.out]; rfl, S.all.box (set3_but _ _ _ _ _) (by omega)⟩
      · have HR := Lib.hid hR
        have HF : Hid (xFit X = (v0, 26)) := Lib.hid (by unfold xFit; exact if_neg hR)
        rw [decide_eq_false hR] at HSM
        have HV := Lib.hid (HP0.out.trans HF.out)
        clear hR
        go_enter Try.func37, Try.ntmps37
        go_wp2_with (first
          | ((with_reducible refine (HAK.out _ HE.out).mono ?_); rintro e w1 ⟨rfl, hE1⟩; have E1 := Lib.hid ((hE1.trans (Ev.alloc w1 (.cells #[.int .i64 ka, .int .i64 na, .string sa] 25))).trans (Ev.alloc _ (.cells #[.int .i64 0, .int .i64 0, .string ⟨#[]⟩] 25))); have hA0 := (Bx.new 25 #[.int .i64 ka, .int .i64 na, .string sa] w1).ev (Ev.alloc _ (.cells #[.int .i64 0, .int .i64 0, .string ⟨#[]⟩] 25)); have hZ0 : Bx 25 (w1.heap.size + 1) #[.int .i64 0, .int .i64 0, .string ⟨#[]⟩] ((w1.alloc (.cells #[.int .i64 ka, .int .i64 na, .string sa] 25)).alloc (.cells #[.int .i64 0, .int .i64 0, .string ⟨#[]⟩] 25)) := (by have := vbox (w1.alloc (.cells #[.int .i64 ka, .int .i64 na, .string sa] 25)); simpa using this); have S : EvS w w1.heap.size (w1.heap.size + 1) _ (ka, na, sa) (0, 0, ⟨#[]⟩) _ := ⟨HX.out.ev E1.out, HB.out.ev E1.out, hA0, hZ0, HE.out.trans E1.out⟩; clear x0 x1 x2 x3 c0 c1 c2 f0 f1 f2; obtain ⟨⟨i0_, i1_, i2_, i3_⟩, _⟩ := (HX.out.ev (hE1.trans (Ev.alloc w1 (.cells #[.int .i64 ka, .int .i64 na, .string sa] 25)))).four; obtain ⟨⟨x0, x1, x2, x3⟩, _⟩ := S.x.four; obtain ⟨⟨c0, c1, c2⟩, f0, f1, f2⟩ := S.r.three; obtain ⟨⟨p0, p1, p2⟩, _⟩ := S.a.three; obtain ⟨⟨q0, q1, q2⟩, _⟩ := S.b.three)
          | ((with_reducible refine (HSM.out _).mono ?_); rintro e w3 ⟨nn, rfl, hnn, rfl⟩))
        (try simp only [Exit.inBlock, Exit.then])
        rw [set3_fold]
        refine bodyPost_ret (results_cellt rfl _ _ _ _ _ rfl (S.r.set3 _ _ _) Try.underlying25 rfl Try.sizeVal) rfl ?_
        exact ⟨by rw [HV.out]; rfl, S.all.box (set3_but _ _ _ _ _) (by omega)⟩
    · subst h1
      have HT := Lib.hid (fun b w1 => rx_truth b w1)
      have HV : Hid (xPerform bNot (ka, na, sa) (ka, na, sa) = xTruth (na == 0)) := Lib.hid rfl
      simp only [bNot] at *
      have hcase : ((na == 0) = true ∧ (na != 0) = false) ∨ ((na == 0) = false ∧ (na != 0) = true) := by
        by_cases h : na = 0
        · exact .inl ⟨beq_iff_eq.2 h, by simp [h]⟩
        · exact .inr ⟨beq_eq_false_iff_ne.2 h, by simp [h]⟩
      rcases hcase with ⟨g1, g2⟩ | ⟨g1, g2⟩ <;> (
        rw [g1] at HV
        go_enter Try.func37, Try.ntmps37
        go_wp2_with (first
          | ((with_reducible refine (HAK.out _ HE.out).mono ?_); rintro e w1 ⟨rfl, hE1⟩; have E1 := Lib.hid ((hE1.trans (Ev.alloc w1 (.cells #[.int .i64 ka, .int .i64 na, .string sa] 25))).trans (Ev.alloc _ (.cells #[.int .i64 0, .int .i64 0, .string ⟨#[]⟩] 25))); have hA0 := (Bx.new 25 #[.int .i64 ka, .int .i64 na, .string sa] w1).ev (Ev.alloc _ (.cells #[.int .i64 0, .int .i64 0, .string ⟨#[]⟩] 25)); have hZ0 : Bx 25 (w1.heap.size + 1) #[.int .i64 0, .int .i64 0, .string ⟨#[]⟩] ((w1.alloc (.cells #[.int .i64 ka, .int .i64 na, .string sa] 25)).alloc (.cells #[.int .i64 0, .int .i64 0, .string ⟨#[]⟩] 25)) := (by have := vbox (w1.alloc (.cells #[.int .i64 ka, .int .i64 na, .string sa] 25)); simpa using this); have S : EvS w w1.heap.size (w1.heap.size + 1) _ (ka, na, sa) (0, 0, ⟨#[]⟩) _ := ⟨HX.out.ev E1.out, HB.out.ev E1.out, hA0, hZ0, HE.out.trans E1.out⟩; clear x0 x1 x2 x3 c0 c1 c2 f0 f1 f2; obtain ⟨⟨i0_, i1_, i2_, i3_⟩, _⟩ := (HX.out.ev (hE1.trans (Ev.alloc w1 (.cells #[.int .i64 ka, .int .i64 na, .string sa] 25)))).four; obtain ⟨⟨x0, x1, x2, x3⟩, _⟩ := S.x.four; obtain ⟨⟨c0, c1, c2⟩, f0, f1, f2⟩ := S.r.three; obtain ⟨⟨p0, p1, p2⟩, _⟩ := S.a.three; obtain ⟨⟨q0, q1, q2⟩, _⟩ := S.b.three)
          | ((with_reducible refine (HT.out _ _).mono ?_); rintro e w4 ⟨rfl, hE⟩; replace S := S.ev hE; clear p0 p1 p2 q0 q1 q2 c0 c1 c2 f0 f1 f2 x0 x1 x2 x3; obtain ⟨⟨x0, x1, x2, x3⟩, _⟩ := S.x.four; obtain ⟨⟨c0, c1, c2⟩, f0, f1, f2⟩ := S.r.three; obtain ⟨⟨p0, p1, p2⟩, _⟩ := S.a.three; obtain ⟨⟨q0, q1, q2⟩, _⟩ := S.b.three))
        (try simp only [Exit.inBlock, Exit.then])
        rw [set3_fold]
        refine bodyPost_ret (results_cellt rfl _ _ _ _ _ rfl (S.r.set3 _ _ _) Try.underlying25 rfl Try.sizeVal) rfl ?_
        exact ⟨by rw [HV.out]; rfl, S.all.box (set3_but _ _ _ _ _) (by omega)⟩
        )
    · subst h1
      have HN := Lib.hid (fun n w1 => rx_num n w1)
      have HV : Hid (xPerform bLen (ka, na, sa) (ka, na, sa) = (vNum (sa.size : Int), 0)) := Lib.hid rfl
      simp only [bLen] at *
      go_enter Try.func37, Try.ntmps37
      go_wp2_with (first
        | ((with_reducible refine (HAK.out _ HE.out).mono ?_); rintro e w1 ⟨rfl, hE1⟩; have E1 := Lib.hid ((hE1.trans (Ev.alloc w1 (.cells #[.int .i64 ka, .int .i64 na, .string sa] 25))).trans (Ev.alloc _ (.cells #[.int .i64 0, .int .i64 0, .string ⟨#[]⟩] 25))); have hA0 := (Bx.new 25 #[.int .i64 ka, .int .i64 na, .string sa] w1).ev (Ev.alloc _ (.cells #[.int .i64 0, .int .i64 0, .string ⟨#[]⟩] 25)); have hZ0 : Bx 25 (w1.heap.size + 1) #[.int .i64 0, .int .i64 0, .string ⟨#[]⟩] ((w1.alloc (.cells #[.int .i64 ka, .int .i64 na, .string sa] 25)).alloc (.cells #[.int .i64 0, .int .i64 0, .string ⟨#[]⟩] 25)) := (by have := vbox (w1.alloc (.cells #[.int .i64 ka, .int .i64 na, .string sa] 25)); simpa using this); have S : EvS w w1.heap.size (w1.heap.size + 1) _ (ka, na, sa) (0, 0, ⟨#[]⟩) _ := ⟨HX.out.ev E1.out, HB.out.ev E1.out, hA0, hZ0, HE.out.trans E1.out⟩; clear x0 x1 x2 x3 c0 c1 c2 f0 f1 f2; obtain ⟨⟨i0_, i1_, i2_, i3_⟩, _⟩ := (HX.out.ev (hE1.trans (Ev.alloc w1 (.cells #[.int .i64 ka, .int .i64 na, .string sa] 25)))).four; obtain ⟨⟨x0, x1, x2, x3⟩, _⟩ := S.x.four; obtain ⟨⟨c0, c1, c2⟩, f0, f1, f2⟩ := S.r.three; obtain ⟨⟨p0, p1, p2⟩, _⟩ := S.a.three; obtain ⟨⟨q0, q1, q2⟩, _⟩ := S.b.three)
        | ((with_reducible refine (HN.out _ _).mono ?_); rintro e w4 ⟨rfl, hE⟩; replace S := S.ev hE; clear p0 p1 p2 q0 q1 q2 c0 c1 c2 f0 f1 f2 x0 x1 x2 x3; obtain ⟨⟨x0, x1, x2, x3⟩, _⟩ := S.x.four; obtain ⟨⟨c0, c1, c2⟩, f0, f1, f2⟩ := S.r.three; obtain ⟨⟨p0, p1, p2⟩, _⟩ := S.a.three; obtain ⟨⟨q0, q1, q2⟩, _⟩ := S.b.three))
      (try simp only [Exit.inBlock, Exit.then])
      rw [set3_fold]
      refine bodyPost_ret (results_cellt rfl _ _ _ _ _ rfl (S.r.set3 _ _ _) Try.underlying25 rfl Try.sizeVal) rfl ?_
      exact ⟨by rw [HV.out]; rfl, S.all.box (set3_but _ _ _ _ _) (by omega)⟩
  · have hyab : (ya == 0) = false := beq_eq_false_iff_ne.2 hya
    have hyan : (ya != 0) = true := by simp [hya]
    have HK : Hid (xEvalsGo ms [] [((ka, na, sa), ya)] = (v0, ya)) := Lib.hid (by simp only [xEvalsGo, hyab, Bool.false_eq_true, if_false])
    go_enter Try.func37, Try.ntmps37
    go_wp2_with (first
      | ((with_reducible refine (HAK.out _ HE.out).mono ?_); rintro e w1 ⟨rfl, hE1⟩; have E1 := Lib.hid (HE.out.trans hE1); have B1 := Lib.hid (HB.out.ev (hE1.trans (Ev.alloc w1 (.cells #[.int .i64 ka, .int .i64 na, .string sa] 25)))); clear c0 c1 c2 f0 f1 f2; obtain ⟨⟨c0, c1, c2⟩, f0, f1, f2⟩ := B1.out.three))
    (try simp only [Exit.inBlock, Exit.then])
    rw [set3_fold]
    refine bodyPost_ret (results_cellt rfl _ _ _ _ _ rfl (B1.out.set3 _ _ _) Try.underlying25 rfl Try.sizeVal) rfl ?_
    exact ⟨by rw [HK.out]; rfl, (E1.out.trans (Ev.alloc w1 _)).box (set3_but _ _ _ _ _) (by omega)⟩

set_option maxRecDepth 100000 in
set_option maxHeartbeats 16000000 in
theorem rx_evalIf {A B D : Option Addr} {n cap n2 cap2 cap3 : Nat} {cols : List C} {r : List V} (w : World) (ms : By) (mn : Int) (a b c : M) (hs : Es w D 3 cap3 [a, b, c]) (ha : EvAt2 A n cap cols B n2 cap2 r w a) (hb : EvAt2 A n cap cols B n2 cap2 r w b) (hc : EvAt2 A n cap cols B n2 cap2 r w c) (hop : ms = bIf) :
    Calls Try.prog 37 #[.agg #[.int .i64 4, .string ⟨ms.toArray⟩, .int .i64 mn, .slice D 3 cap3], .slice A n cap, .slice B n2 cap2] w (VOut (xChoose [xEval cols r a.t, xEval cols r b.t, xEval cols r c.t]) w) := by
  subst hop
  simp only [bIf]
  obtain ⟨d, off, rfl, hd, k0, k1, k2, k3⟩ := Es.cell hs (i := 0) (x := a) rfl
  obtain ⟨d', off', e', _, l0, l1, l2, l3⟩ := Es.cell hs (i := 1) (x := b) rfl
  injection e' with e'
  injection e' with e1 e2 _
  subst e1
  subst e2
  obtain ⟨d', off', e', _, m0, m1, m2, m3⟩ := Es.cell hs (i := 2) (x := c) rfl
  injection e' with e'
  injection e' with e1 e2 _
  subst e1
  subst e2
  have hcap := hs.le
  simp only [Nat.zero_mul, Nat.add_zero, Nat.one_mul] at k0 k1 k2 k3 l0 l1 l2 l3 m0 m1 m2 m3
  unfold EvAt2 ev_ M.kv at ha hb hc
  unfold M.kv at k3 l3 m3
  generalize xEval cols r a.t = ra at *
  generalize xEval cols r b.t = rb at *
  generalize xEval cols r c.t = rc at *
  obtain ⟨⟨ka, na, sa⟩, ya⟩ := ra
  obtain ⟨⟨kb, nb, sb⟩, yb⟩ := rb
  obtain ⟨⟨kc, nc, sc⟩, yc⟩ := rc
  have HAK := Lib.hid ha
  have HBK := Lib.hid hb
  have HCK := Lib.hid hc
  obtain ⟨w0, hw0, hE0, hX, hB⟩ := bx_ev w (.int .i64 4) (.string ⟨([105, 102] : By).toArray⟩) (.int .i64 mn) (.slice (some ⟨d, off, none⟩) 3 cap3)
  have HE := Lib.hid hE0
  have HX := Lib.hid hX
  have HB := Lib.hid hB
  have HCa := Lib.hid (fun w1 (hE : Ev w w1) => And.intro ((hE.cell (p := ⟨d, off, none⟩) hd).trans k0) (And.intro ((hE.cell (p := ⟨d, off + 1, none⟩) hd).trans k1) (And.intro ((hE.cell (p := ⟨d, off + 2, none⟩) hd).trans k2) ((hE.cell (p := ⟨d, off + 3, none⟩) hd).trans k3))))
  have HCb := Lib.hid (fun w1 (hE : Ev w w1) => And.intro ((hE.cell (p := ⟨d, off + 4, none⟩) hd).trans l0) (And.intro ((hE.cell (p := ⟨d, off + 4 + 1, none⟩) hd).trans l1) (And.intro ((hE.cell (p := ⟨d, off + 4 + 2, none⟩) hd).trans l2) ((hE.cell (p := ⟨d, off + 4 + 3, none⟩) hd).trans l3))))
  have HCc := Lib.hid (fun w1 (hE : Ev w w1) => And.intro ((hE.cell (p := ⟨d, off + 8, none⟩) hd).trans m0) (And.intro ((hE.cell (p := ⟨d, off + 8 + 1, none⟩) hd).trans m1) (And.intro ((hE.cell (p := ⟨d, off + 8 + 2, none⟩) hd).trans m2) ((hE.cell (p := ⟨d, off + 8 + 3, none⟩) hd).trans m3))))
  obtain ⟨⟨x0, x1, x2, x3⟩, _⟩ := hX.four
  obtain ⟨⟨c0, c1, c2⟩, f0, f1, f2⟩ := hB.three
  obtain ⟨k0_, k1_, k2_, k3_⟩ := HCa.out _ hE0
  clear ha hb hc hs hE0 hX hB k0 k1 k2 k3 l0 l1 l2 l3 m0 m1 m2 m3
  by_cases hya : ya = 0
  · subst hya
    by_cases hn : na = 0
    · have hnn : (na != 0) = false := by simp [hn]
      have hnb : (na == 0) = true := beq_iff_eq.2 hn
      have HK : Hid (xChoose [((ka, na, sa), (0 : Int)), ((kb, nb, sb), yb), ((kc, nc, sc), yc)] = ((kc, nc, sc), yc)) := Lib.hid (by simp only [xChoose, hnb, beq_self_eq_true, if_true])
      rw [HK.out]
      clear hn
      go_enter Try.func37, Try.ntmps37
      go_wp2_with (first
        | ((with_reducible refine (HAK.out _ HE.out).mono ?_); rintro e w1 ⟨rfl, hE1⟩; have E1 := Lib.hid (hE1.trans (Ev.alloc w1 (.cells #[.int .i64 ka, .int .i64 na, .string sa] 25))); have hA0 := (Bx.new 25 #[.int .i64 ka, .int .i64 na, .string sa] w1); clear x0 x1 x2 x3 c0 c1 c2 f0 f1 f2; obtain ⟨⟨x0, x1, x2, x3⟩, _⟩ := (HX.out.ev E1.out).four; obtain ⟨⟨p0, p1, p2⟩, _⟩ := hA0.three; obtain ⟨m0_, m1_, m2_, m3_⟩ := HCc.out _ (HE.out.trans E1.out))
        | ((with_reducible refine (HCK.out _ (HE.out.trans E1.out)).mono ?_); rintro e w2 ⟨rfl, hE2⟩; have B2 := (HB.out.ev E1.out).ev hE2; have E2 := (HE.out.trans E1.out).trans hE2; obtain ⟨⟨c0, c1, c2⟩, f0, f1, f2⟩ := B2.three))
      (try simp only [Exit.inBlock, Exit.then])
      rw [set3_fold]
      refine bodyPost_ret (results_cellt rfl _ _ _ _ _ rfl (B2.set3 _ _ _) Try.underlying25 rfl Try.sizeVal) rfl ?_
      exact ⟨rfl, E2.box (set3_but _ _ _ _ _) (by omega)⟩
    · have hnn : (na != 0) = true := by simp [hn]
      have hnb : (na == 0) = false := beq_eq_false_iff_ne.2 hn
      have HK : Hid (xChoose [((ka, na, sa), (0 : Int)), ((kb, nb, sb), yb), ((kc, nc, sc), yc)] = ((kb, nb, sb), yb)) := Lib.hid (by simp only [xChoose, hnb, beq_self_eq_true, if_true, Bool.false_eq_true, if_false])
      rw [HK.out]
      clear hn
      go_enter Try.func37, Try.ntmps37
      go_wp2_with (first
        | ((with_reducible refine (HAK.out _ HE.out).mono ?_); rintro e w1 ⟨rfl, hE1⟩; have E1 := Lib.hid (hE1.trans (Ev.alloc w1 (.cells #[.int .i64 ka, .int .i64 na, .string sa] 25))); have hA0 := (Bx.new 25 #[.int .i64 ka, .int .i64 na, .string sa] w1); clear x0 x1 x2 x3 c0 c1 c2 f0 f1 f2; obtain ⟨⟨x0, x1, x2, x3⟩, _⟩ := (HX.out.ev E1.out).four; obtain ⟨⟨p0, p1, p2⟩, _⟩ := hA0.three; obtain ⟨l0_, l1_, l2_, l3_⟩ := HCb.out _ (HE.out.trans E1.out))
        | ((with_reducible refine (HBK.out _ (HE.out.trans E1.out)).mono ?_); rintro e w2 ⟨rfl, hE2⟩; have B2 := (HB.out.ev E1.out).ev hE2; have E2 := (HE.out.trans E1.out).trans hE2; obtain ⟨⟨c0, c1, c2⟩, f0, f1, f2⟩ := B2.three))
      (try simp only [Exit.inBlock, Exit.then])
      rw [set3_fold]
      refine bodyPost_ret (results_cellt rfl _ _ _ _ _ rfl (B2.set3 _ _ _) Try.underlying25 rfl Try.sizeVal) rfl ?_
      exact ⟨rfl, E2.box (set3_but _ _ _ _ _) (by omega)⟩
  · have hyab : (ya == 0) = false := beq_eq_false_iff_ne.2 hya
    have hyan : (ya != 0) = true := by simp [hya]
    have HK : Hid (xChoose [((ka, na, sa), ya), ((kb, nb, sb), yb), ((kc, nc, sc), yc)] = (v0, ya)) := Lib.hid (by simp only [xChoose, hyab, Bool.false_eq_true, if_false])
    go_enter Try.func37, Try.ntmps37
    go_wp2_with (first
      | ((with_reducible refine (HAK.out _ HE.out).mono ?_); rintro e w1 ⟨rfl, hE1⟩; have E1 := Lib.hid (HE.out.trans hE1); have B1 := Lib.hid (HB.out.ev (hE1.trans (Ev.alloc w1 (.cells #[.int .i64 ka, .int .i64 na, .string sa] 25)))); clear c0 c1 c2 f0 f1 f2; obtain ⟨⟨c0, c1, c2⟩, f0, f1, f2⟩ := B1.out.three))
    (try simp only [Exit.inBlock, Exit.then])
    rw [set3_fold]
    refine bodyPost_ret (results_cellt rfl _ _ _ _ _ rfl (B1.out.set3 _ _ _) Try.underlying25 rfl Try.sizeVal) rfl ?_
    exact ⟨by rw [HK.out]; rfl, (E1.out.trans (Ev.alloc w1 _)).box (set3_but _ _ _ _ _) (by omega)⟩


set_option maxRecDepth 100000 in
set_option maxHeartbeats 8000000 in
theorem rx_eval (N : Nat) : ∀ (m : M) (b0 : Nat) (w : World) (A : Option Addr) (n cap : Nat) (cols : List C) (B : Option Addr) (n2 cap2 : Nat) (r : List V), m.dep ≤ N → Lx b0 [] w m → Cs w A n cap cols → Vs w B n2 cap2 r → xRight m.t = true → (xKind cols m.t).2 = 0 → fitsL cols r = true → (∀ x ∈ r, fairV x) → m.t.every fairB = true →
    Calls Try.prog 37 #[ev_ m, .slice A n cap, .slice B n2 cap2] w (VOut (xEval cols r m.t) w) := by
  induction N with
  | zero =>
    intro m b0 w A n cap cols B n2 cap2 r hd
    rw [M.dep_eq] at hd
    omega
  | succ N ih =>
    intro m b0 w A n cap cols B n2 cap2 r hd hL hC hV hr hty hfit hfr hfm
    obtain ⟨hf, hkr⟩ := xRight_p hr
    have hke := xEval_eq cols r m
    have hkk := xKind_eq cols m
    have hfm2 := hfm
    rw [T.every_eq, Bool.and_eq_true] at hfm2
    obtain ⟨hfm3, hfm4⟩ := hfm2
    have hfk : ∀ x ∈ m.kids, x.t.every fairB = true := fun x hx => List.all_eq_true.1 hfm4 x.t (by rw [M.t_kids]; exact List.mem_map.2 ⟨x, hx, rfl⟩)
    have hes := hL.es
    rcases xright_kind hf with hk | hk | hk | ⟨hk, hn1, hn2⟩
    · have HC := Lib.hid hC
      have HV := Lib.hid hV
      rw [hk] at hke hkk
      simp only [beq_self_eq_true, if_true] at hke hkk
      unfold ev_ M.kv
      rw [hk]
      generalize m.A = mA at *
      generalize m.cap = mcap at *
      generalize m.kids.length = kn at *
      obtain ⟨w0, hw0, hE0, hX, hB⟩ := bx_ev w (.int .i64 1) (.string ⟨m.s.toArray⟩) (.int .i64 m.n) (.slice mA kn mcap)
      have HE := Lib.hid hE0
      have HB := Lib.hid hB
      obtain ⟨⟨c0, c1, c2, c3⟩, _⟩ := hX.four
      clear hE0 hX hB
      have HF := fun w1 (hE : Ev w w1) => ref5_find (bstr m.s) w1 (HC.out.ev hE)
      unfold bstr at HF hke hkk
      cases hfc : findC cols ⟨m.s.toArray⟩ with
      | none =>
        rw [hfc] at hkk
        rw [hkk] at hty
        cases hty
      | some i =>
        rw [hfc] at hke HF
        have hil := findC_lt hfc
        rw [fitsL_len cols r hfit, HV.out.len] at hil
        obtain ⟨b, off, x, rfl, hb, hx, d0, d1, d2⟩ := HV.out.vcell hil
        have hx2 : r.getD i v0 = x := by simp [List.getD, hx]
        simp only [hx2] at hke
        have HK := Lib.hid hke
        have HF := Lib.hid HF
        have HD1 := Lib.hid (fun w1 (hE : Ev w w1) => And.intro ((hE.cell (p := ⟨b, off + i * 3, none⟩) hb).trans d0) (And.intro ((hE.cell (p := ⟨b, off + i * 3 + 1, none⟩) hb).trans d1) ((hE.cell (p := ⟨b, off + i * 3 + 2, none⟩) hb).trans d2)))
        have i1 : (0 : Int) ≤ (i : Int) := by omega
        have i2 : (i : Int) < (n2 : Int) := by omega
        clear hke hkk hty hfc hx hx2 d0 d1 d2 hL hC hV hr hfit hfr hfm hfm3 hfm4 hkr hf hes hd ih hk
        go_enter Try.func37, Try.ntmps37
        go_wp2_with (first | ((with_reducible refine (HF.out _ HE.out).mono ?_); rintro e w1 ⟨rfl, hE1⟩; simp only [foundAt, Option.isSome_some]; obtain ⟨d0, d1, d2⟩ := HD1.out _ (HE.out.trans hE1); have B1 := HB.out.ev hE1; have E1 := HE.out.trans hE1; clear c0 c1 c2 c3; obtain ⟨⟨c0, c1, c2⟩, f0, f1, f2⟩ := B1.three))
        (try simp only [Exit.inBlock, Exit.then])
        rw [set3_fold]
        refine bodyPost_ret (results_cellt rfl _ _ _ _ _ rfl (B1.set3 _ _ _) Try.underlying25 rfl Try.sizeVal) rfl ?_
        exact ⟨by rw [HK.out]; rfl, E1.box (set3_but _ _ _ _ _) (by omega)⟩
    · have HK : Hid (xEval cols r m.t = (vNum m.n, 0)) := Lib.hid (by rw [hke, hk]; rfl)
      have HN := Lib.hid (fun w1 => rx_num m.n w1)
      unfold ev_ M.kv
      rw [hk]
      generalize m.A = mA at *
      generalize m.cap = mcap at *
      generalize m.kids.length = kn at *
      obtain ⟨w0, hw0, hE0, hX, hB⟩ := bx_ev w (.int .i64 2) (.string ⟨m.s.toArray⟩) (.int .i64 m.n) (.slice mA kn mcap)
      have HE := Lib.hid hE0
      have HB := Lib.hid hB
      obtain ⟨⟨c0, c1, c2, c3⟩, _⟩ := hX.four
      clear hE0 hX hB hke hkk hty hL hC hV hr hfit hfr hfm hfm3 hfm4 hkr hf hes hd ih hk
      go_enter Try.func37, Try.ntmps37
      go_wp2_with (first | ((with_reducible refine (HN.out _).mono ?_); rintro e w1 ⟨rfl, hE1⟩; have B1 := HB.out.ev hE1; have E1 := HE.out.trans hE1; clear c0 c1 c2 c3; obtain ⟨⟨c0, c1, c2⟩, f0, f1, f2⟩ := B1.three))
      (try simp only [Exit.inBlock, Exit.then])
      rw [set3_fold]
      refine bodyPost_ret (results_cellt rfl _ _ _ _ _ rfl (B1.set3 _ _ _) Try.underlying25 rfl Try.sizeVal) rfl ?_
      exact ⟨by rw [HK.out]; rfl, E1.box (set3_but _ _ _ _ _) (by omega)⟩
    · have HK : Hid (xEval cols r m.t = (vStr ⟨m.s.toArray⟩, 0)) := Lib.hid (by rw [hke, hk]; rfl)
      unfold ev_ M.kv
      rw [hk]
      generalize m.A = mA at *
      generalize m.cap = mcap at *
      generalize m.kids.length = kn at *
      obtain ⟨w0, hw0, hE0, hX, hB⟩ := bx_ev w (.int .i64 3) (.string ⟨m.s.toArray⟩) (.int .i64 m.n) (.slice mA kn mcap)
      have HE := Lib.hid hE0
      have HB := Lib.hid hB
      obtain ⟨⟨c0, c1, c2, c3⟩, _⟩ := hX.four
      obtain ⟨⟨b0_, b1_, b2_⟩, f0, f1, f2⟩ := hB.three
      clear hE0 hX hB hke hkk hty hL hC hV hr hfit hfr hfm hfm3 hfm4 hkr hf hes hd ih hk
      go_enter Try.func37, Try.ntmps37
      go_wp2
      (try simp only [Exit.inBlock, Exit.then])
      rw [set3_fold]
      refine bodyPost_ret (results_cellt rfl _ _ _ _ _ rfl (HB.out.set3 _ _ _) Try.underlying25 rfl Try.sizeVal) rfl ?_
      exact ⟨by rw [HK.out]; rfl, HE.out.box (set3_but _ _ _ _ _) (by omega)⟩
    · have hkt : ∀ x ∈ m.kids, (xKind cols x.t).2 = 0 := by
        intro x hx
        rw [hkk, hk] at hty
        exact xKindsGo_ok _ _ _ hty _ (List.mem_map.2 ⟨x, hx, rfl⟩)
      have HEV : ∀ x ∈ m.kids, EvAt2 A n cap cols B n2 cap2 r w x := fun x hx w1 hE => ih x b0 w1 A n cap cols B n2 cap2 r (by have := M.kid_dep hx; omega) ((hL.kid x hx).ev hE) (hC.ev hE) (hV.ev hE) (hkr x hx) (hkt x hx) hfit hfr (hfk x hx)
      have hff : ∀ x ∈ m.kids, fairV (xEval cols r x.t).1 := fun x hx => xEval_fair cols r hfr x.t (hfk x hx)
      unfold ev_ M.kv
      rw [hk]
      rw [hk] at hke
      cases hif : (m.s == bIf) with
      | true =>
        have hms := beq_iff_eq.1 hif
        have hk3 : m.kids.length = 3 := by rw [hn1, hms]; rfl
        obtain ⟨xa, xb, xc, hkids⟩ := three_of hk3
        have h := rx_evalIf (A := A) (B := B) (n := n) (cap := cap) (n2 := n2) (cap2 := cap2) (cols := cols) (r := r) w m.s m.n xa xb xc (hkids ▸ hk3 ▸ hes) (HEV xa (by rw [hkids]; simp)) (HEV xb (by rw [hkids]; simp)) (HEV xc (by rw [hkids]; simp)) hms
        rw [hif, hkids] at hke
        rw [hke, hk3]
        exact h
      | false =>
        rw [hif] at hke
        obtain ⟨h12, ht | ht⟩ := takes_12 hn2 hif
        · have ho : xOne m.s = true := by
            unfold xTakes at ht
            cases h2 : xTwo m.s
            · rw [h2] at h12; simpa using h12
            · rw [h2] at ht; simp at ht
          have hk1 : m.kids.length = 1 := by rw [hn1, ht]
          obtain ⟨xa, hkids⟩ := List.length_eq_one_iff.1 hk1
          have h := rx_evalOne (A := A) (B := B) (n := n) (cap := cap) (n2 := n2) (cap2 := cap2) (cols := cols) (r := r) w m.s m.n xa (hkids ▸ hk1 ▸ hes) (HEV xa (by rw [hkids]; simp)) ho (hff xa (by rw [hkids]; simp))
          rw [hkids] at hke
          rw [hke, hk1]
          exact h
        · have ho : xTwo m.s = true := by
            unfold xTakes at ht
            cases h2 : xTwo m.s
            · rw [h2] at ht
              cases h1 : xOne m.s
              · rw [h1, hif] at ht; simp at ht
              · rw [h1] at ht; simp at ht
            · rfl
          have hk2 : m.kids.length = 2 := by rw [hn1, ht]
          obtain ⟨xa, xb, hkids⟩ := two_of hk2
          have h := rx_evalTwo (A := A) (B := B) (n := n) (cap := cap) (n2 := n2) (cap2 := cap2) (cols := cols) (r := r) w m.s m.n xa xb (hkids ▸ hk2 ▸ hes) (HEV xa (by rw [hkids]; simp)) (HEV xb (by rw [hkids]; simp)) ho (hff xa (by rw [hkids]; simp)) (hff xb (by rw [hkids]; simp))
          rw [hkids] at hke
          rw [hke, hk2]
          exact h

set_option maxRecDepth 100000 in
set_option maxHeartbeats 1600000 in
theorem rx_Eval (m : M) (b0 : Nat) (w : World) (A : Option Addr) (n cap : Nat) (cols : List C) (B : Option Addr) (n2 cap2 : Nat) (r : List V) (hL : Lx b0 [] w m) (hC : Cs w A n cap cols) (hV : Vs w B n2 cap2 r) (hsz : m.t.size ≤ 100000) (hfr : ∀ x ∈ r, fairV x) (hfm : m.t.every fairB = true) :
    Calls Try.prog 15 #[ev_ m, .slice A n cap, .slice B n2 cap2] w (VOut (xValue cols r m.t) w) := by
  have HT := fun w1 (hE : Ev w w1) => rx_type m b0 w1 A n cap cols (hL.ev hE) (hC.ev hE) hsz hfm
  have HF := fun w1 (hE : Ev w w1) => ref5_fits w1 (hC.ev hE) (hV.ev hE)
  have HX := fun w1 (hE : Ev w w1) (hty : (xType cols m.t).2 = 0) (hfit : fitsL cols r = true) => rx_eval m.dep m b0 w1 A n cap cols B n2 cap2 r (Nat.le_refl _) (hL.ev hE) (hC.ev hE) (hV.ev hE) (xType_ok hty).1 (xType_ok hty).2 hfit hfr hfm
  unfold xValue
  unfold ev_ at *
  unfold M.kv at *
  generalize fitsL cols r = ft at *
  generalize xEval cols r m.t = rv at *
  generalize xType cols m.t = ty at *
  obtain ⟨k, y⟩ := ty
  obtain ⟨⟨rk, rn, rs⟩, ry⟩ := rv
  simp only at *
  have HT := Lib.hid HT
  have HF := Lib.hid HF
  obtain ⟨w0, hw0, hE0, hX, hB⟩ := bx_ev w (.int .i64 m.kind) (.string ⟨m.s.toArray⟩) (.int .i64 m.n) (.slice m.A m.kids.length m.cap)
  have HE := Lib.hid hE0
  have HXB := Lib.hid hX
  have HB := Lib.hid hB
  obtain ⟨⟨c0, c1, c2, c3⟩, _⟩ := hX.four
  clear hL hC hV hsz hfr hfm hE0 hX hB
  by_cases hy : y = 0
  · subst hy
    simp only [beq_self_eq_true, Bool.true_and]
    cases ft with
    | true =>
      have hxx := fun w1 (hE : Ev w w1) => HX w1 hE rfl rfl
      have HXX := Lib.hid hxx
      clear hxx HX
      simp only [if_true]
      go_enter Try.func15, Try.ntmps15
      go_wp2_with (first
        | ((with_reducible refine (HT.out _ HE.out).mono ?_); rintro e w1 ⟨rfl, hE1⟩)
        | ((with_reducible refine (HF.out _ (HE.out.trans hE1)).mono ?_); rintro e w2 ⟨rfl, hE2⟩; clear c0 c1 c2 c3; obtain ⟨⟨c0, c1, c2, c3⟩, _⟩ := (HXB.out.ev (hE1.trans hE2)).four)
        | ((with_reducible refine (HXX.out _ ((HE.out.trans hE1).trans hE2)).mono ?_); rintro e w3 ⟨rfl, hE3⟩; have B1 := HB.out.ev ((hE1.trans hE2).trans hE3); have E1 := ((HE.out.trans hE1).trans hE2).trans hE3; clear c0 c1 c2 c3; obtain ⟨⟨c0, c1, c2⟩, f0, f1, f2⟩ := B1.three))
      (try simp only [Exit.inBlock, Exit.then])
      rw [set3_fold]
      refine bodyPost_ret (results_cellt rfl _ _ _ _ _ rfl (B1.set3 _ _ _) Try.underlying25 rfl Try.sizeVal) rfl ?_
      exact ⟨rfl, E1.box (set3_but _ _ _ _ _) (by omega)⟩
    | false =>
      clear HX
      simp only [Bool.false_eq_true, if_false]
      go_enter Try.func15, Try.ntmps15
      go_wp2_with (first
        | ((with_reducible refine (HT.out _ HE.out).mono ?_); rintro e w1 ⟨rfl, hE1⟩)
        | ((with_reducible refine (HF.out _ (HE.out.trans hE1)).mono ?_); rintro e w2 ⟨rfl, hE2⟩; have B1 := HB.out.ev (hE1.trans hE2); have E1 := (HE.out.trans hE1).trans hE2; clear c0 c1 c2 c3; obtain ⟨⟨c0, c1, c2⟩, f0, f1, f2⟩ := B1.three))
      (try simp only [Exit.inBlock, Exit.then])
      rw [set3_fold]
      refine bodyPost_ret (results_cellt rfl _ _ _ _ _ rfl (B1.set3 _ _ _) Try.underlying25 rfl Try.sizeVal) rfl ?_
      exact ⟨rfl, E1.box (set3_but _ _ _ _ _) (by omega)⟩
  · have hyb : (y == 0) = false := beq_eq_false_iff_ne.2 hy
    have hyn : (y != 0) = true := by simp [hy]
    rw [hyb]
    simp only [Bool.false_and, Bool.false_eq_true, if_false]
    clear HX
    go_enter Try.func15, Try.ntmps15
    go_wp2_with (first
      | ((with_reducible refine (HT.out _ HE.out).mono ?_); rintro e w1 ⟨rfl, hE1⟩; have B1 := HB.out.ev hE1; have E1 := HE.out.trans hE1; clear c0 c1 c2 c3; obtain ⟨⟨c0, c1, c2⟩, f0, f1, f2⟩ := B1.three))
    (try simp only [Exit.inBlock, Exit.then])
    rw [set3_fold]
    refine bodyPost_ret (results_cellt rfl _ _ _ _ _ rfl (B1.set3 _ _ _) Try.underlying25 rfl Try.sizeVal) rfl ?_
    exact ⟨rfl, E1.box (set3_but _ _ _ _ _) (by omega)⟩
end Go.Proofs.Ytgiofdmedhhobaa

namespace Go.Proofs.Ytgiofdmedhhobaa
open Go.RowKit
set_option linter.unusedVariables false

theorem xOf_add : xOf [40, 97, 100, 100, 32, 97, 32, 99, 41] = .mk 4 bAdd 0 [.mk 1 [97] 0 [] 0, .mk 1 [99] 0 [] 0] 0 := by kernel_rfl
theorem xOk_add : (rfRead [40, 97, 100, 100, 32, 97, 32, 99, 41]).1.every fairB = true ∧ (rfRead [40, 97, 100, 100, 32, 97, 32, 99, 41]).1.size ≤ 100000 := by decide +kernel
theorem xOf_sub : xOf [40, 115, 117, 98, 32, 97, 32, 99, 41] = .mk 4 bSub 0 [.mk 1 [97] 0 [] 0, .mk 1 [99] 0 [] 0] 0 := by kernel_rfl
theorem xOk_sub : (rfRead [40, 115, 117, 98, 32, 97, 32, 99, 41]).1.every fairB = true ∧ (rfRead [40, 115, 117, 98, 32, 97, 32, 99, 41]).1.size ≤ 100000 := by decide +kernel
theorem xOf_mul : xOf [40, 109, 117, 108, 32, 97, 32, 99, 41] = .mk 4 bMul 0 [.mk 1 [97] 0 [] 0, .mk 1 [99] 0 [] 0] 0 := by kernel_rfl
theorem xOk_mul : (rfRead [40, 109, 117, 108, 32, 97, 32, 99, 41]).1.every fairB = true ∧ (rfRead [40, 109, 117, 108, 32, 97, 32, 99, 41]).1.size ≤ 100000 := by decide +kernel
theorem xOf_if : xOf [40, 105, 102, 32, 40, 108, 116, 32, 97, 32, 48, 41, 32, 40, 110, 101, 103, 32, 97, 41, 32, 97, 41] = .mk 4 bIf 0 [.mk 4 bLt 0 [.mk 1 [97] 0 [] 0, .mk 2 [] 0 [] 0] 0, .mk 4 bNeg 0 [.mk 1 [97] 0 [] 0] 0, .mk 1 [97] 0 [] 0] 0 := by kernel_rfl
theorem xOk_if : (rfRead [40, 105, 102, 32, 40, 108, 116, 32, 97, 32, 48, 41, 32, 40, 110, 101, 103, 32, 97, 41, 32, 97, 41]).1.every fairB = true ∧ (rfRead [40, 105, 102, 32, 40, 108, 116, 32, 97, 32, 48, 41, 32, 40, 110, 101, 103, 32, 97, 41, 32, 97, 41]).1.size ≤ 100000 := by decide +kernel
theorem xOf_addx : xOf [40, 97, 100, 100, 32, 97, 32, 34, 120, 34, 41] = .mk 4 bAdd 0 [.mk 1 [97] 0 [] 0, .mk 3 [120] 0 [] 0] 0 := by kernel_rfl
theorem xOk_addx : (rfRead [40, 97, 100, 100, 32, 97, 32, 34, 120, 34, 41]).1.every fairB = true ∧ (rfRead [40, 97, 100, 100, 32, 97, 32, 34, 120, 34, 41]).1.size ≤ 100000 := by decide +kernel
theorem xOf_ifa : xOf [40, 105, 102, 32, 97, 32, 99, 32, 40, 97, 100, 100, 32, 57, 50, 50, 51, 51, 55, 50, 48, 51, 54, 56, 53, 52, 55, 55, 53, 56, 48, 55, 32, 49, 41, 41] = .mk 4 bIf 0 [.mk 1 [97] 0 [] 0, .mk 1 [99] 0 [] 0, .mk 4 bAdd 0 [.mk 2 [] 9223372036854775807 [] 0, .mk 2 [] 1 [] 0] 0] 0 := by kernel_rfl
theorem xOk_ifa : (rfRead [40, 105, 102, 32, 97, 32, 99, 32, 40, 97, 100, 100, 32, 57, 50, 50, 51, 51, 55, 50, 48, 51, 54, 56, 53, 52, 55, 55, 53, 56, 48, 55, 32, 49, 41, 41]).1.every fairB = true ∧ (rfRead [40, 105, 102, 32, 97, 32, 99, 32, 40, 97, 100, 100, 32, 57, 50, 50, 51, 51, 55, 50, 48, 51, 54, 56, 53, 52, 55, 55, 53, 56, 48, 55, 32, 49, 41, 41]).1.size ≤ 100000 := by decide +kernel
theorem xOf_ifb : xOf [40, 105, 102, 32, 97, 32, 40, 97, 100, 100, 32, 57, 50, 50, 51, 51, 55, 50, 48, 51, 54, 56, 53, 52, 55, 55, 53, 56, 48, 55, 32, 49, 41, 32, 99, 41] = .mk 4 bIf 0 [.mk 1 [97] 0 [] 0, .mk 4 bAdd 0 [.mk 2 [] 9223372036854775807 [] 0, .mk 2 [] 1 [] 0] 0, .mk 1 [99] 0 [] 0] 0 := by kernel_rfl
theorem xOk_ifb : (rfRead [40, 105, 102, 32, 97, 32, 40, 97, 100, 100, 32, 57, 50, 50, 51, 51, 55, 50, 48, 51, 54, 56, 53, 52, 55, 55, 53, 56, 48, 55, 32, 49, 41, 32, 99, 41]).1.every fairB = true ∧ (rfRead [40, 105, 102, 32, 97, 32, 40, 97, 100, 100, 32, 57, 50, 50, 51, 51, 55, 50, 48, 51, 54, 56, 53, 52, 55, 55, 53, 56, 48, 55, 32, 49, 41, 32, 99, 41]).1.size ≤ 100000 := by decide +kernel
theorem xOf_and : xOf [40, 97, 110, 100, 32, 97, 32, 99, 41] = .mk 4 bAnd 0 [.mk 1 [97] 0 [] 0, .mk 1 [99] 0 [] 0] 0 := by kernel_rfl
theorem xOk_and : (rfRead [40, 97, 110, 100, 32, 97, 32, 99, 41]).1.every fairB = true ∧ (rfRead [40, 97, 110, 100, 32, 97, 32, 99, 41]).1.size ≤ 100000 := by decide +kernel
theorem xOf_or : xOf [40, 111, 114, 32, 97, 32, 99, 41] = .mk 4 bOr 0 [.mk 1 [97] 0 [] 0, .mk 1 [99] 0 [] 0] 0 := by kernel_rfl
theorem xOk_or : (rfRead [40, 111, 114, 32, 97, 32, 99, 41]).1.every fairB = true ∧ (rfRead [40, 111, 114, 32, 97, 32, 99, 41]).1.size ≤ 100000 := by decide +kernel
theorem xOf_not : xOf [40, 110, 111, 116, 32, 97, 41] = .mk 4 bNot 0 [.mk 1 [97] 0 [] 0] 0 := by kernel_rfl
theorem xOk_not : (rfRead [40, 110, 111, 116, 32, 97, 41]).1.every fairB = true ∧ (rfRead [40, 110, 111, 116, 32, 97, 41]).1.size ≤ 100000 := by decide +kernel
theorem xOf_eq : xOf [40, 101, 113, 32, 97, 32, 99, 41] = .mk 4 bEq 0 [.mk 1 [97] 0 [] 0, .mk 1 [99] 0 [] 0] 0 := by kernel_rfl
theorem xOk_eq : (rfRead [40, 101, 113, 32, 97, 32, 99, 41]).1.every fairB = true ∧ (rfRead [40, 101, 113, 32, 97, 32, 99, 41]).1.size ≤ 100000 := by decide +kernel
theorem xOf_lt : xOf [40, 108, 116, 32, 97, 32, 99, 41] = .mk 4 bLt 0 [.mk 1 [97] 0 [] 0, .mk 1 [99] 0 [] 0] 0 := by kernel_rfl
theorem xOk_lt : (rfRead [40, 108, 116, 32, 97, 32, 99, 41]).1.every fairB = true ∧ (rfRead [40, 108, 116, 32, 97, 32, 99, 41]).1.size ≤ 100000 := by decide +kernel
theorem xOf_cat : xOf [40, 99, 97, 116, 32, 120, 32, 121, 41] = .mk 4 bCat 0 [.mk 1 [120] 0 [] 0, .mk 1 [121] 0 [] 0] 0 := by kernel_rfl
theorem xOk_cat : (rfRead [40, 99, 97, 116, 32, 120, 32, 121, 41]).1.every fairB = true ∧ (rfRead [40, 99, 97, 116, 32, 120, 32, 121, 41]).1.size ≤ 100000 := by decide +kernel
theorem xOf_len : xOf [40, 108, 101, 110, 32, 120, 41] = .mk 4 bLen 0 [.mk 1 [120] 0 [] 0] 0 := by kernel_rfl
theorem xOk_len : (rfRead [40, 108, 101, 110, 32, 120, 41]).1.every fairB = true ∧ (rfRead [40, 108, 101, 110, 32, 120, 41]).1.size ≤ 100000 := by decide +kernel
theorem xOf_eqx : xOf [40, 101, 113, 32, 120, 32, 121, 41] = .mk 4 bEq 0 [.mk 1 [120] 0 [] 0, .mk 1 [121] 0 [] 0] 0 := by kernel_rfl
theorem xOk_eqx : (rfRead [40, 101, 113, 32, 120, 32, 121, 41]).1.every fairB = true ∧ (rfRead [40, 101, 113, 32, 120, 32, 121, 41]).1.size ≤ 100000 := by decide +kernel
theorem xOf_ltx : xOf [40, 108, 116, 32, 120, 32, 121, 41] = .mk 4 bLt 0 [.mk 1 [120] 0 [] 0, .mk 1 [121] 0 [] 0] 0 := by kernel_rfl
theorem xOk_ltx : (rfRead [40, 108, 116, 32, 120, 32, 121, 41]).1.every fairB = true ∧ (rfRead [40, 108, 116, 32, 120, 32, 121, 41]).1.size ≤ 100000 := by decide +kernel
end Go.Proofs.Ytgiofdmedhhobaa

namespace Go.Proofs.Ytgiofdmedhhobaa
open Go.RowKit
set_option linter.unusedVariables false

def ucols : List C := [(⟨#[97]⟩, 1), (⟨#[99]⟩, 1)]
theorem keep_u (w : World) : Calls Try.prog 42 #[] w fun e w' => e = .returned (.slice (some ⟨w.heap.size, 0, none⟩) 2 2) ∧ Cs w' (some ⟨w.heap.size, 0, none⟩) 2 2 ucols ∧ Ev w w' := by
  go_enter Try.func42, Try.ntmps42
  go_wp2
  go_ret
  exact ⟨rfl, Cs.made ucols 2 rfl (by decide) w _ rfl, Ev.alloc _ _⟩
theorem value_add (a b : Int) : xValue ucols [numV a, numV b] (.mk 4 bAdd 0 [.mk 1 [97] 0 [] 0, .mk 1 [99] 0 [] 0] 0) = xFit (a + b) := by kernel_rfl
theorem value_sub (a b : Int) : xValue ucols [numV a, numV b] (.mk 4 bSub 0 [.mk 1 [97] 0 [] 0, .mk 1 [99] 0 [] 0] 0) = xFit (a - b) := by kernel_rfl
theorem value_mul (a b : Int) : xValue ucols [numV a, numV b] (.mk 4 bMul 0 [.mk 1 [97] 0 [] 0, .mk 1 [99] 0 [] 0] 0) = xFit (a * b) := by kernel_rfl
end Go.Proofs.Ytgiofdmedhhobaa
