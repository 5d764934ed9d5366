/-
  SumTurns: whatever the input, the law gives true and leaves its arguments as they were. No condition.
-/
import Derived.Test.YtmhgpbohkdndpaaKnown2
import Derived.Test.YtmhgpbohkdndpaaTurnMath
import Derived.Deep.DeepCutAuto
import Derived.Test.YtmhgpbohkdndpaaRegionLast
import Derived.Laws.BitsAllLaws
import Derived.ProofKit
import Derived.OpenShut
import Derived.ShutString
import Derived.ChangeOld
namespace Go.Proofs.Ytmhgpbohkdndpaa.sumTurns
open Go.ChangeShapes Go.WideShapes Go.ChangeAt Go.RowKit
set_option linter.unusedVariables false
theorem two_pow_lt {t : Nat} (h : t < 8) : 2 ^ t < 256 := Nat.pow_lt_pow_right (by decide) h
theorem own : ownKnob Try.prog.godebug = none := by kernel_rfl
theorem laidOut : laidOutB Try.prog = true := by kernel_rfl

set_option maxRecDepth 100000 in
set_option maxHeartbeats 1000000 in
theorem walk (A0 : Option Addr) (n0 cap0 : Nat) (l0 : List UInt8) (x1 : Int) (x2 : Int) (w : World) (h0 : Bs w A0 n0 cap0 l0) (w1_ : (Lit.int .i64 x1).wf = true) (w2_ : (Lit.int .i64 x2).wf = true) :
    Calls Try.prog 5 #[.slice A0 n0 cap0, .int .i64 x1, .int .i64 x2] w fun e w' => e = .returned (.bool true) ∧ Ev w w' := by
  have hmx := h0.max
  have hle := h0.le
  go_enter Try.func5, Try.ntmps5
  go_upto_if 15 with fail
  go_cut [0] (fun v wx => ∃ (n1 : Nat) (l1 : List UInt8), v = .slice A0 n1 cap0 ∧ n1 ≤ 3000 ∧ Bs wx A0 n1 cap0 l1 ∧ Ev w wx)
  case first =>
    by_cases hb : 3000 < n0
    · have hto := h0.to (show 3000 ≤ n0 by omega)
      go_wp2_with fail
      go_meet
      exact ⟨3000, _, rfl, by omega, hto, Ev.refl _⟩
    · go_wp2_with fail
      go_meet
      exact ⟨n0, l0, rfl, by omega, h0, Ev.refl _⟩
  case rest =>
    obtain ⟨n1, l1, rfl, h3, hB, hE0⟩ := hcut
    clear hmx hle h0
    have hmx := hB.max
    have hle := hB.le
    have hl1 := Lib.hid hB.len
    go_wp2_with fail
    refine (seal_any A0 n1 cap0 l1 wc hB (by omega)).mono ?_
    rintro e w1 ⟨v, rfl, hF⟩
    have hE1 := hF.ev
    obtain ⟨A1, cap1, rfl, hown1, _⟩ := hF
    obtain ⟨n2, hn2⟩ : ∃ n2, (seal_ l1).length = n2 := ⟨_, rfl⟩
    rw [hn2] at hown1 ⊢
    have hn2' : n2 = n1 + 4 := by rw [← hn2, seal_length, hB.len]
    have HN2 := Lib.hid hn2
    have p2 : n1 + 4 ≤ n2 := by omega
    have p3 : n2 ≤ n1 + 4 := by omega
    clear hn2 hn2'
    have hBs := Bs.own hown1
    obtain ⟨g, cap, hA1, hgB, hg1⟩ := hown1.form (by omega)
    injection hA1 with hA1 _ hcap
    subst hA1; subst hcap
    go_wp2_with fail
    refine (within_any x1 0 ((n2 : Int) - 1) w1 w1_ (by omega) (by omega) (by omega)).mono ?_
    rintro e w2 ⟨rfl, rfl⟩
    obtain ⟨r1, r2⟩ := within_range (n := x1) (lo := 0) (hi := (n2 : Int) - 1) (by omega)
    obtain ⟨k, hk⟩ := Int.eq_ofNat_of_zero_le r1
    rw [hk] at r1 r2 ⊢
    obtain ⟨s1, s2⟩ := within_range (n := x2) (lo := 0) (hi := 7) (by omega)
    obtain ⟨t, ht⟩ := Int.eq_ofNat_of_zero_le s1
    have HT := Lib.hid ht
    rw [ht] at s1 s2
    have ht8 : t < 8 := by omega
    clear hk ht
    have hcell := hown1.cellAt k (by omega)
    rw [bvs_at (by rw [HN2.out]; omega)] at hcell
    have hfr := hown1.frozenAt k
    generalize hx : (seal_ l1).getD k 0 = x at hcell
    have HX := Lib.hid hx
    clear hx
    have i1 : (0 : Int) ≤ (k : Int) := by omega
    have i2 : (k : Int) < (n2 : Int) := by omega
    have i2n : k < n2 := by omega
    have hwr : IntKind.u64.wrap (t : Int) = (t : Int) := IntWalk.u64_in _ (by omega)
    have hmix : Try.prog.follows .mixedOrders = true := by kernel_rfl
    go_wp2_with fail
    refine wp_region_last hmix [fun v _ => v = .slice (some ⟨g, 0, none⟩) n2 cap1, fun v _ => v = .int .i64 (k : Int), fun v _ => v = .slice (some ⟨g, 0, none⟩) n2 cap1, fun v _ => v = .int .i64 (k : Int), fun v _ => v = .pointer (some ⟨g, k, none⟩), fun v _ => v = .int .u8 (x.toNat : Int), fun v _ => v = .int .i64 x2, fun v _ => v = .int .i64 (t : Int), fun v _ => v = .int .u64 (t : Int), fun v _ => v = .int .u8 ((2 ^ t : Nat) : Int), fun v _ => v = .int .u8 ((x.toNat ^^^ 2 ^ t : Nat) : Int), fun v _ => v = .pointer (some ⟨g, k, none⟩)]
      66 rfl 12 _ rfl rfl (by kernel_rfl) (by kernel_rfl) ⟨mono_eq _, mono_eq _, mono_eq _, mono_eq _, mono_eq _, mono_eq _, mono_eq _, mono_eq _, mono_eq _, mono_eq _, mono_eq _, mono_eq _, trivial⟩ (opsb_start ?_) ?_
    · refine opsb_cons 0 ?_ (opsb_cons 1 ?_ (opsb_cons 2 ?_ (opsb_cons 3 ?_ (opsb_cons 4 ?_ (opsb_cons 5 ?_ (opsb_cons 6 ?_ (opsb_cons 7 ?_ (opsb_cons 8 ?_ (opsb_cons 9 ?_ (opsb_cons 10 ?_ (opsb_cons 11 ?_ (opsb_nil 12 _ (by omega)))))))))))))
      · refine op_value fun a w c => ⟨(wanted_plain rfl), _, run_move _ rfl w, (c.was 7 (by kernel_rfl) rfl)⟩
      · refine op_value fun a w c => ⟨(wanted_plain rfl), _, run_move _ rfl w, (c.was 8 (by kernel_rfl) rfl)⟩
      · refine op_value fun a w c => ⟨(wanted_plain rfl), _, run_move _ rfl w, (c.was 7 (by kernel_rfl) rfl)⟩
      · refine op_value fun a w c => ⟨(wanted_plain rfl), _, run_move _ rfl w, (c.was 8 (by kernel_rfl) rfl)⟩
      · refine op_value fun a w c => ⟨(wanted_plain rfl), .pointer (some ⟨g, k, none⟩), ?_, rfl⟩
        have e30 : a.eval (.tmp 30) = .slice (some ⟨g, 0, none⟩) n2 cap1 := (c.new 2 30 (by kernel_rfl) (by kernel_rfl))
        have e31 : a.eval (.tmp 31) = .int .i64 (k : Int) := (c.new 3 31 (by kernel_rfl) (by kernel_rfl))
        generalize a.eval = ρ at e30 e31 ⊢
        simp [execOp, e30, e31, go_sem, i2n]
      · refine op_value fun a w c => ⟨(wanted_plain rfl), .int .u8 (x.toNat : Int), ?_, rfl⟩
        have e32 : a.eval (.tmp 32) = .pointer (some ⟨g, k, none⟩) := c.new 4 32 (by kernel_rfl) (by kernel_rfl)
        have hc := (c.ev.cell (p := ⟨g, k, none⟩) hg1).trans hcell
        generalize a.eval = ρ at e32 ⊢
        simp [execOp, e32, hc, go_sem]
      · refine op_value fun a w c => ⟨(wanted_plain rfl), _, run_move _ rfl w, (c.was 2 (by kernel_rfl) rfl)⟩
      · refine op_call fun a w c => ⟨(wanted_plain rfl), 16, #[.int .i64 x2, .int .i64 0, .int .i64 7], ?_, ?_⟩
        · rw [run_call 16 _ _ rfl (by kernel_rfl)]
          have e34 : a.eval (.tmp 34) = .int .i64 x2 := (c.new 6 34 (by kernel_rfl) (by kernel_rfl))
          simp [e34, evc]
        · refine (within_any x2 0 7 _ w2_ (by omega) (by omega) (by omega)).mono ?_
          rintro e w' ⟨rfl, rfl⟩
          exact ⟨_, by rw [HT.out], Ev.refl _, rfl⟩
      · refine op_value fun a w c => ⟨(wanted_plain rfl), .int .u64 (t : Int), ?_, rfl⟩
        have e35 : a.eval (.tmp 35) = .int .i64 (t : Int) := (c.new 7 35 (by kernel_rfl) (by kernel_rfl))
        generalize a.eval = ρ at e35 ⊢
        simp [execOp, e35, go_sem, hwr]
      · refine op_value fun a w c => ⟨(wanted_plain rfl), .int .u8 ((2 ^ t : Nat) : Int), ?_, rfl⟩
        have e36 : a.eval (.tmp 36) = .int .u64 (t : Int) := c.new 8 36 (by kernel_rfl) (by kernel_rfl)
        have kc : a.eval (.const (.int .u8 1)) = .int .u8 1 := rfl
        generalize a.eval = ρ at e36 kc ⊢
        have ht8 : t = 0 ∨ t = 1 ∨ t = 2 ∨ t = 3 ∨ t = 4 ∨ t = 5 ∨ t = 6 ∨ t = 7 := by omega
        clear HT s1 s2 hwr
        rcases ht8 with rfl | rfl | rfl | rfl | rfl | rfl | rfl | rfl <;> simp [execOp, e36, kc, go_sem] <;> decide
      · refine op_value fun a w c => ⟨(wanted_plain rfl), .int .u8 ((x.toNat ^^^ 2 ^ t : Nat) : Int), ?_, rfl⟩
        have e33 : a.eval (.tmp 33) = .int .u8 (x.toNat : Int) := c.new 5 33 (by kernel_rfl) (by kernel_rfl)
        have e37 : a.eval (.tmp 37) = .int .u8 ((2 ^ t : Nat) : Int) := c.new 9 37 (by kernel_rfl) (by kernel_rfl)
        have hxor := u8_xor_nat x.toNat (2 ^ t) x.toNat_lt (two_pow_lt ht8)
        generalize 2 ^ t = q at e37 hxor ⊢
        generalize a.eval = ρ at e33 e37 ⊢
        simp [execOp, e33, e37, hxor, go_sem]
      · refine op_value fun a w c => ⟨(wanted_plain rfl), .pointer (some ⟨g, k, none⟩), ?_, rfl⟩
        have e28 : a.eval (.tmp 28) = .slice (some ⟨g, 0, none⟩) n2 cap1 := (c.new 0 28 (by kernel_rfl) (by kernel_rfl))
        have e29 : a.eval (.tmp 29) = .int .i64 (k : Int) := (c.new 1 29 (by kernel_rfl) (by kernel_rfl))
        generalize a.eval = ρ at e28 e29 ⊢
        simp [execOp, e28, e29, go_sem, i2n]
    · intro s w2 hE hold hnew
      have f0 : s 0 = .slice A0 n1 cap0 := hold 0 (by kernel_rfl)
      have f1 : s 1 = .int .i64 x1 := hold 1 (by kernel_rfl)
      have f2 : s 2 = .int .i64 x2 := hold 2 (by kernel_rfl)
      have f6 : s 6 = .bool false := hold 6 (by kernel_rfl)
      have f7 : s 7 = .slice (some ⟨g, 0, none⟩) n2 cap1 := hold 7 (by kernel_rfl)
      have f8 : s 8 = .int .i64 (k : Int) := hold 8 (by kernel_rfl)
      have f28 : s 28 = .slice (some ⟨g, 0, none⟩) n2 cap1 := hnew 0 28 (by omega) (by kernel_rfl)
      have f29 : s 29 = .int .i64 (k : Int) := hnew 1 29 (by omega) (by kernel_rfl)
      have f30 : s 30 = .slice (some ⟨g, 0, none⟩) n2 cap1 := hnew 2 30 (by omega) (by kernel_rfl)
      have f31 : s 31 = .int .i64 (k : Int) := hnew 3 31 (by omega) (by kernel_rfl)
      have f32 : s 32 = .pointer (some ⟨g, k, none⟩) := hnew 4 32 (by omega) (by kernel_rfl)
      have f33 : s 33 = .int .u8 (x.toNat : Int) := hnew 5 33 (by omega) (by kernel_rfl)
      have f34 : s 34 = .int .i64 x2 := hnew 6 34 (by omega) (by kernel_rfl)
      have f35 : s 35 = .int .i64 (t : Int) := hnew 7 35 (by omega) (by kernel_rfl)
      have f36 : s 36 = .int .u64 (t : Int) := hnew 8 36 (by omega) (by kernel_rfl)
      have f37 : s 37 = .int .u8 ((2 ^ t : Nat) : Int) := hnew 9 37 (by omega) (by kernel_rfl)
      have f38 : s 38 = .int .u8 ((x.toNat ^^^ 2 ^ t : Nat) : Int) := hnew 10 38 (by omega) (by kernel_rfl)
      have f39 : s 39 = .pointer (some ⟨g, k, none⟩) := hnew 11 39 (by omega) (by kernel_rfl)
      have hcl := (hE.cell (p := ⟨g, k, none⟩) hg1).trans hcell
      have hfz := (hE.frozen (p := ⟨g, k, none⟩) hg1).trans hfr
      refine ⟨wanted_plain rfl, wp_of_skip (w' := w2.setCell ⟨g, k, none⟩ (.int .u8 ((x.toNat ^^^ 2 ^ t : Nat) : Int))) ?_ ?_⟩
      · change (execOp (Act.eval ⟨#[s 0, s 1, s 2, s 3, s 4, s 5, s 6, s 7, s 8, s 9, s 10, s 11, s 12, s 13, s 14, s 15, s 16, s 17, s 18, s 19, s 20, s 21, s 22, s 23, s 24, s 25, s 26, s 27, s 28, s 29, s 30, s 31, s 32, s 33, s 34, s 35, s 36, s 37, s 38, s 39, s 40, s 41, s 42, s 43, s 44, s 45, s 46, s 47, s 48, s 49, s 50, s 51, s 52, s 53, s 54, s 55, s 56, s 57, s 58, s 59, s 60, s 61, s 62, s 63, s 64, s 65], _⟩) ⟨none, .store 5 (.tmp 39) (.tmp 38), _, _, _, _⟩).run _ _ = _
        simp [execOp, f39, f38, go_sem, hcl, hfz]
      change Exit.then _ _ .normal ⟨#[s 0, s 1, s 2, s 3, s 4, s 5, s 6, s 7, s 8, s 9, s 10, s 11, s 12, s 13, s 14, s 15, s 16, s 17, s 18, s 19, s 20, s 21, s 22, s 23, s 24, s 25, s 26, s 27, s 28, s 29, s 30, s 31, s 32, s 33, s 34, s 35, s 36, s 37, s 38, s 39, s 40, s 41, s 42, s 43, s 44, s 45, s 46, s 47, s 48, s 49, s 50, s 51, s 52, s 53, s 54, s 55, s 56, s 57, s 58, s 59, s 60, s 61, s 62, s 63, s 64, s 65], _⟩ _
      simp only [f0, f1, f2, f6, f7, f8, f28, f29, f30, f31, f32, f33, f34, f35, f36, f37, f38, f39]
      have HT3 : Hid (w2.setCell ⟨g, k, none⟩ (.int .u8 ((x.toNat ^^^ 2 ^ t : Nat) : Int)) = w2.setCell ⟨g, k, none⟩ (.int .u8 ((x.toNat ^^^ 2 ^ t : Nat) : Int))) := Lib.hid rfl
      have hy : (UInt8.ofNat (x.toNat ^^^ 2 ^ t)).toNat = x.toNat ^^^ 2 ^ t := by
        have h1 : x.toNat ^^^ 2 ^ t < 2 ^ 8 := Nat.xor_lt_two_pow x.toNat_lt (two_pow_lt ht8)
        rw [UInt8.toNat_ofNat']
        exact Nat.mod_eq_of_lt h1
      have hyx : UInt8.ofNat (x.toNat ^^^ 2 ^ t) ≠ x := by
        intro e
        have h1 := congrArg UInt8.toNat e
        rw [hy] at h1
        have h2 : 2 ^ t = 0 := by
          have := congrArg (fun q => x.toNat ^^^ q) h1
          simp [← Nat.xor_assoc] at this
        have h3 : 0 < 2 ^ t := Nat.two_pow_pos t
        omega
      rw [← hy]
      generalize UInt8.ofNat (x.toNat ^^^ 2 ^ t) = y at hyx hy
      have hown3 := ((own_ev hown1 hE).stored k (.int .u8 (y.toNat : Int))).1
      rw [← bvs_set] at hown3
      have hb3 : Below wc.heap.size wc (w2.setCell ⟨g, k, none⟩ (.int .u8 (y.toNat : Int))) := (hE1.trans hE).setCell (p := ⟨g, k, none⟩) hgB _
      have HF : Hid (isSealed ((seal_ l1).set k y) = false) := Lib.hid (turned_told l1 k y (by rw [HN2.out]; omega) (by rw [HX.out]; exact hyx))
      generalize w2.setCell ⟨g, k, none⟩ (.int .u8 (y.toNat : Int)) = w3 at hown3 hb3 ⊢
      have hB3 := Bs.own hown3
      have hb1 := hB.below hb3
      have hlen3 : (opened ((seal_ l1).set k y)).length = 0 := by rw [opened, HF.out, if_neg (by simp)]; rfl
      clear hnew hold hown1 hcell hfr hcl hfz hBs HX hyx hy HT HN2 hown3 HT3 i1 i2 i2n hwr hmix
      go_wp2_with fail
      refine (open_any (some ⟨g, 0, none⟩) n2 cap1 _ w3 hB3 (by omega)).mono ?_
      rintro e w4 ⟨v, rfl, hF4⟩
      rw [HF.out]
      have hE4 := hF4.ev
      obtain ⟨A4, cap4, rfl, _, _⟩ := hF4
      have hb4 := hb1.below hE4
      go_wp2_with fail
      refine (seal_any A0 n1 cap0 l1 w4 hb4 (by omega)).mono ?_
      rintro e w5 ⟨v, rfl, hF5⟩
      have hE5 := hF5.ev
      obtain ⟨A5, cap5, rfl, hown5, _⟩ := hF5
      have hb5 := hb4.below hE5
      go_wp2_with fail
      refine (open_any A5 _ cap5 (seal_ l1) w5 (Bs.own hown5) (by rw [seal_length, hl1.out]; omega)).mono ?_
      rintro e w6 ⟨v, rfl, hF6⟩
      rw [isSealed_seal]
      rw [opened_seal] at hF6
      have hE6 := hF6.ev
      obtain ⟨A6, cap6, rfl, hown6, _⟩ := hF6
      have hs6 := (Bs.own hown6).str (P := Try.prog) 22 9 5 Try.underlying22 Try.underlying5 Try.underlying9
      have hs7 := (hb5.below hE6).str (P := Try.prog) 22 9 5 Try.underlying22 Try.underlying5 Try.underlying9
      clear hown5 hown6
      go_wp2_with fail
      refine (known_any w6).mono ?_
      rintro e w7 ⟨rfl, hE7⟩
      go_wp2
      go_ret
      exact ⟨rfl, (Ev.trans hE0 hb3).trans ((hE4.trans hE5).trans (hE6.trans hE7))⟩

set_option maxRecDepth 100000 in
theorem lifted (os : Os) (started : os.Started) (H : Type) (enc : TypeId × Value → H) :
    ReturnsInHanded {} Try.checked os 5 .any (Rows.sumTurnsSpec.pre6 enc Try.prog Try.f5 Rows.sumTurnsRow.domain false) (Rows.sumTurnsSpec.post enc Try.prog Try.f5 false true false false) := by
  refine returnsInHanded_of_change (C := Try.checked) own started (by kernel_rfl) Try.func5
    (ChangeSpec.witness6 (enc := enc) (C := Try.checked) false ⟨#[], #[.slice none 0 0, .int .i64 0, .int .i64 0], []⟩ 8 (by kernel_rfl) (by kernel_rfl) (by kernel_rfl) (by kernel_rfl)) ?_
  intro W base args ds gs before hval0 hW hcnd _
  have hval : ∀ (j : Nat) t v, Try.f5.params[j]? = some t → args[j]? = some v → Value.okWide Try.prog W .any base t v := hval0
  have hW' := hW
  obtain ⟨p, q, hA0, hV, rfl, hfz, hnd⟩ := hW
  have hA : DataW.TrodAll enc Try.prog W 0 (fun _ => true) true Try.f5.params.toList args.toList ds p := hA0
  rw [Try.params5] at hA hval
  obtain ⟨v0, vs0, d0, ds0, p0, q0, hargs, rfl, rfl, h0, r0⟩ := trodAll_cons hA
  obtain ⟨v1, vs1, d1, ds1, p1, q1, rfl, rfl, rfl, h1, r1⟩ := trodAll_cons r0
  obtain ⟨v2, vs2, d2, ds2, p2, q2, rfl, rfl, rfl, h2, r2⟩ := trodAll_cons r1
  obtain ⟨rfl, rfl, rfl⟩ := trodAll_nil r2
  obtain rfl : args = #[v0, v1, v2] := by cases args; simp_all
  obtain ⟨rfl, rfl⟩ := trodVars_none hV
  obtain ⟨A0, n0, cap0, rfl⟩ := okWide_slice Try.underlying22 (hval 0 22 v0 rfl rfl)
  have k0 := h0
  have lt0 : ∀ x ∈ p0, x.block < W.heap.size := by obtain ⟨m, hm⟩ := k0; exact DataW.trod_lt m _ _ _ hm
  obtain ⟨l0, b0⟩ : ∃ l, Bs W A0 n0 cap0 l := by
    obtain ⟨fuel, hf⟩ := h0
    rcases open_ints Try.underlying22 Try.underlying5 (by kernel_rfl) hf with ⟨hcs, _⟩ | ⟨x, l, c, zs, hcs, _, hl, hm, hz, _, hcell, hwz⟩
    · simp [Value.cells] at hcs
      obtain ⟨rfl, rfl, rfl⟩ := hcs
      exact ⟨[], Bs.nil_ W⟩
    · simp [Value.cells] at hcs
      obtain ⟨rfl, rfl, rfl⟩ := hcs
      exact Bs.came hl hm (by simpa using hz) hcell hwz
  obtain ⟨x1, rfl, rfl, rfl, w1⟩ := open_int Try.underlying3 (hval 1 3 v1 rfl rfl) h1
  obtain ⟨x2, rfl, rfl, rfl, w2⟩ := open_int Try.underlying3 (hval 2 3 v2 rfl rfl) h2
  clear hA0 hval0
  refine (walk A0 n0 cap0 l0 x1 x2 W b0 w1 w2).mono fun e W' ⟨he, bel⟩ => ?_
  subst he
  exact ⟨_, rfl, _, _, _, [], _, [], hW', trodAll_mk1 (shut_bool Try.underlying4 _), (trodAll_cons_mk (Below.trod laidOut (by kernel_rfl) (of_decide_eq_true (by kernel_rfl)) k0 bel lt0) (trodAll_cons_mk (shut_int Try.underlying3 w1) (trodAll_cons_mk (shut_int Try.underlying3 w2) trodAll_mk0))), rfl, bel.frame _, fun h => by cases h⟩

theorem over : Rows.sumTurnsRow.holds Try.pinned (OpenSpec.ofChange Rows.sumTurnsSpec) :=
  OpenClaim.holds_of_wide 5 Try.f5 rfl rfl rfl rfl rfl rfl rfl ⟨rfl, rfl, rfl, rfl, rfl⟩ rfl rfl rfl rfl rfl (by kernel_rfl) Try.func5 (by kernel_rfl)
    (of_decide_eq_true (by kernel_rfl)) (by unfold Func.isWrapper; first | (rw [if_pos (by decide +kernel)]; kernel_rfl) | (rw [if_neg (by decide +kernel)]; exact ⟨rfl, rfl⟩))
    (fun os started H enc _ => lifted os started H enc)

/-- The statement. -/
theorem proved : Rows.SumTurnsSaid := over
#print axioms proved
end Go.Proofs.Ytmhgpbohkdndpaa.sumTurns
