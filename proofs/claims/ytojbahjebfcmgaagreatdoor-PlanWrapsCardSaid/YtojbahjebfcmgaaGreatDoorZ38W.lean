/-
  Texts that belong together: The walk of PlanWraps.
-/
import Derived.Deep.DeepCutAuto
import Derived.Test.YtojbahjebfcmgaaGreatDoorZ36W
import Derived.Test.YtojbahjebfcmgaaGreatDoorZ35W
import Derived.Test.YtojbahjebfcmgaaGreatDoorZ37W
namespace Go.Proofs.YtojbahjebfcmgaaGreatDoor
open Go.RowKit
set_option linter.unusedVariables false

theorem wPlan_kind {k : Nat} (hk : k < 5) (p : Pl) : (wPlan k p).kind = wKind k := by
  rcases five_of hk with rfl | rfl | rfl | rfl | rfl <;> rfl
theorem wPlan_last {k : Nat} (hk : k < 5) (p : Pl) : ∃ l, (wPlan k p).kids = l ++ [p] := by
  rcases five_of hk with rfl | rfl | rfl | rfl | rfl
  · exact ⟨[], rfl⟩
  · exact ⟨[], rfl⟩
  · exact ⟨[], rfl⟩
  · exact ⟨[], rfl⟩
  · exact ⟨[_], rfl⟩
theorem wHead_len {k : Nat} (hk : k < 5) : (wHead k).length ≤ 40 := by
  rcases five_of hk with rfl | rfl | rfl | rfl | rfl <;> decide
/-- The last plan within. -/
theorem last_kid {k : Nat} (hk : k < 5) {p : Pl} {u : PM} (hu : u.p = wPlan k p) : ∃ L y, u.kids = L ++ [y] ∧ y.p = p := by
  obtain ⟨l, hl⟩ := wPlan_last hk p
  rw [← hu, PM.p_eq] at hl
  have hl2 : u.kids.map PM.p = l ++ [p] := hl
  obtain ⟨L, K, h1, h2, h3⟩ := List.map_eq_append_iff.1 hl2
  obtain ⟨y, K2, h4, h5, h6⟩ := List.map_eq_cons_iff.1 h3
  have h7 : K2 = [] := List.map_eq_nil_iff.1 h6
  subst h7
  exact ⟨L, y, by rw [h1, h4], h5⟩
theorem run_sub_one {T : TypeId} {ρ : Operand → Value} {o : Oper} {x y : Operand} {a : Nat} (ho : o.op = .binOp .sub T x y T) (hx : ρ x = .int .i64 ((a : Int) + 1)) (hy : ρ y = .int .i64 1) (h2 : (a : Int) ≤ 9223372036854775806) (w : World) :
    (execOp ρ o).run Tryz.prog w = .ok (.value (.int .i64 (a : Int))) w := by
  unfold execOp
  rw [ho]
  simp [hx, hy, go_sem]
  exact IntWalk.i64_in _ (by omega)
theorem run_len_succ {ρ : Operand → Value} {o : Oper} {x : Operand} {A : Option Addr} {n cap : Nat} (ho : o.op = .call { callee := .builtin .len, args := #[x], argTypes := #[25] }) (h : ρ x = .slice A (n + 1) cap) (w : World) :
    (execOp ρ o).run Tryz.prog w = .ok (.value (.int .i64 ((n : Int) + 1))) w := by
  unfold execOp
  rw [ho]
  simp [h, go_sem]
theorem run_cat {ρ : Operand → Value} {o : Oper} {x y : Operand} {a b c : By} (ho : o.op = .binOp .add 9 x y 9) (hx : ρ x = .string ⟨a.toArray⟩) (hy : ρ y = .string ⟨b.toArray⟩) (hc : c = a ++ b) (hl : c.length ≤ 1000000) (w : World) :
    (execOp ρ o).run Tryz.prog w = .ok (.value (.string ⟨c.toArray⟩)) w := by
  have h1 := sx_size a
  have h2 := sx_size b
  have h3 := sx_cat a b
  rw [← hc] at h3
  have h4 : a.length + b.length ≤ 1000000 := by rw [hc, List.length_append] at hl; exact hl
  unfold execOp
  rw [ho]
  simp [hx, hy, go_sem, h1, h2, h3, show a.length + b.length ≤ 9223372036854775807 by omega]

set_option maxRecDepth 100000 in
set_option maxHeartbeats 32000000 in
theorem pwraps_walk (s0 : ByteArray) (x1 : Int) (w : World) (hTab : Tab w) (u0 : s0.size ≤ maxLen) (hx1 : i64R x1) :
    Calls Tryz.prog 4 #[.string s0, .int .i64 x1] w fun e w' => e = .returned (.bool true) ∧ Ev w w' := by
  have hmix : Tryz.prog.follows .mixedOrders = true := by kernel_rfl
  unfold maxLen at u0
  have HTAB := Lib.hid hTab
  have HE0 := Lib.hid (Ev.refl w)
  have HX1 := Lib.hid hx1
  clear hTab hx1
  go_enter Tryz.func4, Tryz.ntmps4
  go_upto_if 17 with fail
  go_cut [0] (fun v wx => ∃ s1 : ByteArray, v = .string s1 ∧ s1.size ≤ 250 ∧ w = wx)
  case first =>
    by_cases hs : (250 : Int) < (s0.size : Int)
    · have hz : (s0.extract 0 250).size = 250 := by
        have h1 : (s0.extract 0 250).data.toList.length = (s0.extract 0 250).size := by rw [Array.length_toList]; rfl
        have h2 : s0.data.toList.length = s0.size := by rw [Array.length_toList]; rfl
        rw [← h1, Lib.extract_eq, List.drop_zero, List.length_take, h2]
        omega
      have HZ := Lib.hid hz
      have i1 : (250 : Int) ≤ (s0.size : Int) := by omega
      clear hz
      go_wp2_with fail
      go_meet
      exact ⟨s0.extract 0 250, rfl, by rw [HZ.out]; exact Nat.le_refl _, rfl⟩
    · go_wp2_with fail
      go_meet
      exact ⟨s0, rfl, by omega, rfl⟩
  case rest =>
  obtain ⟨s1, rfl, hs1, rfl⟩ := hcut
  clear u0
  obtain ⟨L, rfl⟩ : ∃ L : By, s1 = ⟨L.toArray⟩ := ⟨s1.data.toList, by simp⟩
  have hL7 : L.length ≤ 250 := by simpa [ByteArray.size] using hs1
  have HR := Lib.hid (fun w1 (hE : Ev w w1) => pl_Read L w1 (HTAB.out.ev hE) (by omega))
  have HKn := Lib.hid (fun w1 (hE : Ev w w1) => known9_any w1 (HTAB.out.ev hE))
  have hwr := pRead_wr L
  unfold PReadOut at HR
  generalize pRead L = R at *
  obtain ⟨P, Rw, Rx⟩ := R
  simp only at HR hwr
  by_cases hw : Rw = 0
  · subst hw
    have hW := hwr rfl
    have HW := Lib.hid hW
    obtain ⟨PS, hPS⟩ : ∃ PS, PS = printS (pTree P) := ⟨_, rfl⟩
    have hlen : PS.length ≤ 600 := by rw [hPS]; exact hW.len6
    have HPR : Hid (∀ (m : PM) w1, Ev w w1 → m.p = P → Qx 0 [] w1 m → Calls Tryz.prog 11 #[.agg #[.int .i64 m.kind, .string ⟨m.name.toArray⟩, .slice m.ex.A m.ex.l.length m.ex.cap, .slice m.co.A m.co.l.length m.co.cap, .slice m.lf.A m.lf.l.length m.lf.cap, .slice m.rt.A m.rt.l.length m.rt.cap, .slice m.ag.A m.ag.l.length m.ag.cap, .slice m.A m.kids.length m.cap]] w1 fun e w' => e = .returned (.string ⟨PS.toArray⟩) ∧ Ev w1 w') := Lib.hid fun m w1 hE hm hL => print_at P HW.out PS hPS m w1 (HTAB.out.ev hE) hm hL
    obtain ⟨sz, hsz⟩ : ∃ sz, sz = P.size := ⟨_, rfl⟩
    have hsz6 : sz ≤ 600 := by rw [hsz]; exact hW.size_le
    have HSZ0 := Lib.hid hsz
    have HPSE := Lib.hid hPS
    clear hW hwr hPS hsz
    go_upto_if 30 with (first
      | ((with_reducible refine (HR.out _ HE0.out).mono ?_); rintro r w1 ⟨m, rfl, hmp, hmq, hE1⟩; simp only []; obtain ⟨w2, hw2, hE2, hB2, _⟩ := bx_pl w1 m; have E2 := Lib.hid (hE1.trans hE2); have HMP := Lib.hid hmp; have HMQ := Lib.hid ((hmq.ev hE2).low (Nat.zero_le _)); have HBM := Lib.hid hB2; obtain ⟨⟨p0, p1, p2, p3, p4, p5, p6, p7⟩, _⟩ := hB2.eight; clear hmp hmq hE1 hE2 hB2))
    go_cut [8] (fun v wx => ∃ k : Nat, v = .int .i64 (k : Int) ∧ k < 5 ∧ wx = w2)
    case first =>
      by_cases hx : (0 : Int) < x1
      · have HM5 := Lib.hid (show x1 % 5 = ((x1 % 5).toNat : Int) by omega)
        have HM6 := Lib.hid (Int.tmod_eq_emod_of_nonneg (a := x1) (b := 5) (by omega))
        go_wp2_with fail
        go_meet
        refine ⟨(x1 % 5).toNat, ?_, by omega, rfl⟩
        first
          | exact congrArg (Value.int .i64) HM5.out
          | exact congrArg (Value.int .i64) (HM6.out.trans HM5.out)
          | (rw [← HM5.out, ← HM6.out])
          | (rw [← HM5.out]; simp)
      · go_wp2_with fail
        go_meet
        exact ⟨0, rfl, by omega, rfl⟩
    case rest =>
    obtain ⟨k, rfl, hk, rfl⟩ := hcut
    go_upto_region 10 with (first
      | ((with_reducible refine (HPR.out m _ E2.out HMP.out HMQ.out).mono ?_); rintro r w3 ⟨rfl, hE3⟩; have E3 := Lib.hid hE3; clear hE3 p0 p1 p2 p3 p4 p5 p6 p7))
    go_cut [10] (fun v wx => v = .string ⟨(wHead k).toArray⟩ ∧ Ev w3 wx)
    case first =>
      clear hw2
      rcases five_of hk with rfl | rfl | rfl | rfl | rfl <;> (go_wp2_with fail; go_meet; exact ⟨rfl, Ev.alloc _ _⟩)
    case rest =>
    rename World => w4
    obtain ⟨rfl, hE4⟩ := hcut
    obtain ⟨WH, hWH⟩ : ∃ WH, WH = wHead k := ⟨_, rfl⟩
    obtain ⟨XS, hXS⟩ : ∃ XS, XS = wHead k ++ (PS ++ [41]) := ⟨_, rfl⟩
    have hcat : (⟨WH.toArray⟩ : ByteArray) ++ ⟨PS.toArray⟩ ++ ⟨#[41]⟩ = ⟨XS.toArray⟩ := by
      have h1 := sx_cat WH PS
      have h2 := sx_cat (WH ++ PS) [41]
      rw [← h1, List.append_assoc, hWH, ← hXS] at h2
      rw [hWH]
      exact h2
    have hWl : WH.length ≤ 40 := by rw [hWH]; exact wHead_len hk
    have hXlen : XS.length ≤ 700 := by rw [hXS, ← hWH]; simp; omega
    have HXC : Hid (XS = WH ++ PS ++ [41]) := Lib.hid (by rw [hXS, hWH, List.append_assoc])
    have E34 := Lib.hid (E3.out.trans hE4)
    have E4 := Lib.hid (E2.out.trans E34.out)
    have HR3 := Lib.hid (fun w1 (hE : Ev w w1) => pl_Read XS w1 (HTAB.out.ev hE) (by omega))
    have hcase := wrap_read hk HW.out.wr.good
    rw [← HPSE.out, ← hXS] at hcase
    have HWX := Lib.hid (pRead_wr XS)
    have hz := sx_size PS
    have hz2 := sx_size WH
    unfold PReadOut at HR3
    generalize pRead XS = R3 at *
    obtain ⟨RP3, RW3, RX3⟩ := R3
    simp only at HR3 hcase HWX
    have HXSE := Lib.hid hXS
    rw [← hWH]
    have HWH := Lib.hid hWH
    clear hXS hWH hE4
    have KN := trivial
    rcases hcase with hc | hc | hc
    · obtain ⟨hwp, hcr⟩ := Prod.mk.inj hc
      obtain ⟨hr0, hrx⟩ := Prod.mk.inj hcr
      subst hr0
      have HWU := HWX.out rfl
      have HWU := Lib.hid HWU
      have HWP := Lib.hid hwp
      clear hc hcr hwp hrx HWX
      go_upto_region 14 with (first
        | ((with_reducible refine (HR3.out _ E4.out).mono ?_); rintro r w5 ⟨u, rfl, hup, huq, hE5⟩; simp only []; obtain ⟨w6, hw6, hE6, hB6, _⟩ := bx_pl w5 u; have E6 := Lib.hid (hE5.trans hE6); have HUP := Lib.hid (hup.trans HWP.out); have HUP0 := Lib.hid hup; have HUQ := Lib.hid ((huq.ev hE6).low (Nat.zero_le _)); have HBU := Lib.hid hB6; clear hup huq hE5 hE6 hB6))
      go_cut [14] (fun v wx => v = .int .i64 (wKind k) ∧ Ev w6 wx)
      case first =>
        clear hw2 hw6
        rcases five_of hk with rfl | rfl | rfl | rfl | rfl <;> (go_wp2_with fail; go_meet; exact ⟨rfl, Ev.alloc _ _⟩)
      case rest =>
      rename World => w7
      obtain ⟨rfl, hE7⟩ := hcut
      have E7 := Lib.hid (((E4.out.trans E6.out).trans hE7))
      have hB7 := HBU.out.ev hE7
      have E27 := Lib.hid ((E34.out.trans E6.out).trans hE7)
      have BU := hB7
      have BM := HBM.out.ev E27.out
      have HMQ7 := Lib.hid (HMQ.out.ev E27.out)
      have HUQ7 := Lib.hid (HUQ.out.ev hE7)
      obtain ⟨Lk, y, hLk, hy⟩ := last_kid hk HUP.out
      obtain ⟨nl, hnl⟩ : ∃ nl, nl = Lk.length := ⟨_, rfl⟩
      have hnu : u.kids.length = nl + 1 := by rw [hLk, hnl]; simp
      have hyat : u.kids[nl]? = some y := by rw [hLk, hnl]; simp
      have HYQ := Lib.hid (HUQ7.out.kid y (List.mem_of_getElem? hyat))
      have hps := HUQ7.out.ps
      obtain ⟨b, off, hbA, hb, _⟩ := hps.rd (by omega)
      have hcl := hps.le
      have hcm := hps.max
      rw [hbA] at hps
      have HPY := Lib.hid (Ps.eight hps hyat)
      have hkd : u.kind = wKind k := by
        have h1 := HUP.out
        rw [PM.p_eq] at h1
        have h2 := congrArg Pl.kind h1
        rw [wPlan_kind hk] at h2
        exact h2
      obtain ⟨⟨u0_, u1_, u2_, u3_, u4_, u5_, u6_, u7_⟩, _⟩ := BU.eight
      rw [hkd] at u0_
      rw [hbA, hnu] at u7_
      have hgu := BU.lt
      have HKP := Lib.hid (fun w2 (hE : Ev w7 w2) => keep_plan y m 0 0 w2 (HYQ.out.ev hE) (HMQ7.out.ev hE) (hy.trans HMP.out.symm))
      have HPU := Lib.hid (fun w2 (hE : Ev w7 w2) => print_at (wPlan k P) (by have h := HWU.out; rwa [HWP.out] at h) XS (by rw [wPlan_print hk, HXSE.out, HPSE.out]) u w2 (HTAB.out.ev (E7.out.trans hE)) HUP.out (HUQ7.out.ev hE))
      unfold Yes at HKP
      clear hnl hps hLk u1_ u2_ u3_ u4_ u5_ u6_ hyat
      generalize w1.heap.size = gm at *
      generalize w5.heap.size = gu at *
      generalize hwk : wKind k = wk at *
      clear hw2 hw6 hwk
      have hnub : ((nl : Int) + 1 == 0) = false := by rw [beq_eq_false_iff_ne]; omega
      go_upto_region 15 with fail
      refine wp_region_slots hmix [fun v _ => v = .int .i64 0, fun v _ => v = .bool false, fun v _ => v = .bool false, fun v _ => v = .pointer (some ⟨gu, 0, none⟩), fun v _ => v = .int .i64 wk, fun v _ => v = .int .i64 wk, fun v _ => v = .bool false, fun v _ => v = .bool false, fun v _ => v = .bool false, fun v _ => v = .pointer (some ⟨gu, 7, none⟩), fun v _ => v = .slice (some ⟨b, off, none⟩) (nl + 1) u.cap, fun v _ => v = .int .i64 ((nl : Int) + 1), fun v _ => v = .bool false, fun v _ => v = .bool false, fun v _ => v = .bool false, fun v _ => v = .pointer (some ⟨gu, 7, none⟩), fun v _ => v = .slice (some ⟨b, off, none⟩) (nl + 1) u.cap, fun v _ => v = .pointer (some ⟨gu, 7, none⟩), fun v _ => v = .slice (some ⟨b, off, none⟩) (nl + 1) u.cap, fun v _ => v = .int .i64 ((nl : Int) + 1), fun v _ => v = .int .i64 (nl : Int), fun v _ => v = .pointer (some ⟨b, off + nl * 8, none⟩), fun v _ => v = pv y, fun v _ => v = pv m, fun v _ => v = .bool true, fun v _ => v = .bool false, fun v _ => v = .bool false, fun v _ => v = .bool false, fun v _ => v = pv u, fun v _ => v = .string ⟨XS.toArray⟩, fun v _ => v = .string ⟨WH.toArray⟩, fun v _ => v = .string ⟨PS.toArray⟩, fun v _ => v = .string ⟨(WH ++ PS).toArray⟩, fun v _ => v = .string ⟨XS.toArray⟩, fun v _ => v = .bool false, fun v _ => v = .bool false]
        122 rfl (by kernel_rfl) ⟨mono_eq _, mono_eq _, mono_eq _, mono_eq _, mono_eq _, mono_eq _, mono_eq _, mono_eq _, mono_eq _, mono_eq _, mono_eq _, mono_eq _, mono_eq _, mono_eq _, mono_eq _, mono_eq _, mono_eq _, mono_eq _, mono_eq _, mono_eq _, mono_eq _, mono_eq _, mono_eq _, mono_eq _, mono_eq _, mono_eq _, mono_eq _, mono_eq _, mono_eq _, mono_eq _, mono_eq _, mono_eq _, mono_eq _, mono_eq _, mono_eq _, mono_eq _, trivial⟩ ?_ ?_
      · refine ops_cons 0 ?_ (ops_cons 1 ?_ (ops_cons 2 ?_ (ops_cons 3 ?_ (ops_cons 4 ?_ (ops_cons 5 ?_ (ops_cons 6 ?_ (ops_cons 7 ?_ (ops_cons 8 ?_ (ops_cons 9 ?_ (ops_cons 10 ?_ (ops_cons 11 ?_ (ops_cons 12 ?_ (ops_cons 13 ?_ (ops_cons 14 ?_ (ops_cons 15 ?_ (ops_cons 16 ?_ (ops_cons 17 ?_ (ops_cons 18 ?_ (ops_cons 19 ?_ (ops_cons 20 ?_ (ops_cons 21 ?_ (ops_cons 22 ?_ (ops_cons 23 ?_ (ops_cons 24 ?_ (ops_cons 25 ?_ (ops_cons 26 ?_ (ops_cons 27 ?_ (ops_cons 28 ?_ (ops_cons 29 ?_ (ops_cons 30 ?_ (ops_cons 31 ?_ (ops_cons 32 ?_ (ops_cons 33 ?_ (ops_cons 34 ?_ (ops_cons 35 ?_ (ops_nil 36))))))))))))))))))))))))))))))))))))
        · refine op_value fun a wq c => ⟨(wanted_plain rfl), _, run_move _ rfl wq, (c.was 12 (by kernel_rfl) rfl)⟩
        · refine op_value fun a wq c => ⟨(wanted_plain rfl), .bool false, ?_, rfl⟩
          have e59 : a.eval (.tmp 59) = .int .i64 0 := (c.new 0 59 (by kernel_rfl) (by kernel_rfl))
          have kc0 : a.eval (.const (.int .i64 0)) = .int .i64 0 := rfl
          generalize a.eval = ρ at e59 kc0 ⊢
          simp [execOp, e59, kc0, go_sem]
        · refine op_value fun a wq c => ⟨(wanted_plain rfl), _, run_move _ rfl wq, (c.new 1 60 (by kernel_rfl) (by kernel_rfl))⟩
        · refine op_value fun a wq c => ⟨(wanted_yes rfl (by kernel_rfl) (c.new 2 61 (by kernel_rfl) (by kernel_rfl))), .pointer (some ⟨gu, 0, none⟩), ?_, rfl⟩
          have e11 : a.eval (.tmp 11) = .pointer (some ⟨gu, 0, none⟩) := (c.was 11 (by kernel_rfl) rfl)
          generalize a.eval = ρ at e11 ⊢
          simp [execOp, e11, go_sem]
        · refine op_value fun a wq c => ⟨(wanted_yes rfl (by kernel_rfl) (c.new 2 61 (by kernel_rfl) (by kernel_rfl))), .int .i64 wk, ?_, rfl⟩
          have e_0 : a.eval (.tmp 62) = .pointer (some ⟨gu, 0, none⟩) := (c.new 3 62 (by kernel_rfl) (by kernel_rfl))
          have hc := (c.ev.cell (p := ⟨gu, 0, none⟩) hgu).trans u0_
          generalize a.eval = ρ at e_0 ⊢
          simp [execOp, e_0, hc, go_sem]
        · refine op_value fun a wq c => ⟨(wanted_yes rfl (by kernel_rfl) (c.new 2 61 (by kernel_rfl) (by kernel_rfl))), _, run_move _ rfl wq, (c.was 14 (by kernel_rfl) rfl)⟩
        · refine op_value fun a wq c => ⟨(wanted_yes rfl (by kernel_rfl) (c.new 2 61 (by kernel_rfl) (by kernel_rfl))), .bool false, ?_, rfl⟩
          have e63 : a.eval (.tmp 63) = .int .i64 wk := (c.new 4 63 (by kernel_rfl) (by kernel_rfl))
          have e64 : a.eval (.tmp 64) = .int .i64 wk := (c.new 5 64 (by kernel_rfl) (by kernel_rfl))
          generalize a.eval = ρ at e63 e64 ⊢
          simp [execOp, e63, e64, go_sem]
        · refine op_value fun a wq c => ⟨(wanted_plain rfl), _, run_pick_false rfl (c.new 2 61 (by kernel_rfl) (by kernel_rfl)) wq, (c.new 6 65 (by kernel_rfl) (by kernel_rfl))⟩
        · refine op_value fun a wq c => ⟨(wanted_plain rfl), _, run_move _ rfl wq, (c.new 7 66 (by kernel_rfl) (by kernel_rfl))⟩
        · refine op_value fun a wq c => ⟨(wanted_yes rfl (by kernel_rfl) (c.new 8 67 (by kernel_rfl) (by kernel_rfl))), .pointer (some ⟨gu, 7, none⟩), ?_, rfl⟩
          have e11 : a.eval (.tmp 11) = .pointer (some ⟨gu, 0, none⟩) := (c.was 11 (by kernel_rfl) rfl)
          generalize a.eval = ρ at e11 ⊢
          simp [execOp, e11, go_sem]
        · refine op_value fun a wq c => ⟨(wanted_yes rfl (by kernel_rfl) (c.new 8 67 (by kernel_rfl) (by kernel_rfl))), .slice (some ⟨b, off, none⟩) (nl + 1) u.cap, ?_, rfl⟩
          have e_0 : a.eval (.tmp 68) = .pointer (some ⟨gu, 7, none⟩) := (c.new 9 68 (by kernel_rfl) (by kernel_rfl))
          have hc := (c.ev.cell (p := ⟨gu, 7, none⟩) hgu).trans u7_
          generalize a.eval = ρ at e_0 ⊢
          simp [execOp, e_0, hc, go_sem]
        · refine op_value fun a wq c => ⟨(wanted_yes rfl (by kernel_rfl) (c.new 8 67 (by kernel_rfl) (by kernel_rfl))), _, run_len_succ rfl (c.new 10 69 (by kernel_rfl) (by kernel_rfl)) wq, rfl⟩
        · refine op_value fun a wq c => ⟨(wanted_yes rfl (by kernel_rfl) (c.new 8 67 (by kernel_rfl) (by kernel_rfl))), .bool false, ?_, rfl⟩
          have e70 : a.eval (.tmp 70) = .int .i64 ((nl : Int) + 1) := (c.new 11 70 (by kernel_rfl) (by kernel_rfl))
          have kc0 : a.eval (.const (.int .i64 0)) = .int .i64 0 := rfl
          generalize a.eval = ρ at e70 kc0 ⊢
          simp [execOp, e70, kc0, go_sem, hnub]
        · refine op_value fun a wq c => ⟨(wanted_plain rfl), _, run_pick_false rfl (c.new 8 67 (by kernel_rfl) (by kernel_rfl)) wq, (c.new 12 71 (by kernel_rfl) (by kernel_rfl))⟩
        · refine op_value fun a wq c => ⟨(wanted_plain rfl), _, run_move _ rfl wq, (c.new 13 72 (by kernel_rfl) (by kernel_rfl))⟩
        · refine op_value fun a wq c => ⟨(wanted_yes rfl (by kernel_rfl) (c.new 14 73 (by kernel_rfl) (by kernel_rfl))), .pointer (some ⟨gu, 7, none⟩), ?_, rfl⟩
          have e11 : a.eval (.tmp 11) = .pointer (some ⟨gu, 0, none⟩) := (c.was 11 (by kernel_rfl) rfl)
          generalize a.eval = ρ at e11 ⊢
          simp [execOp, e11, go_sem]
        · refine op_value fun a wq c => ⟨(wanted_yes rfl (by kernel_rfl) (c.new 14 73 (by kernel_rfl) (by kernel_rfl))), .slice (some ⟨b, off, none⟩) (nl + 1) u.cap, ?_, rfl⟩
          have e_0 : a.eval (.tmp 74) = .pointer (some ⟨gu, 7, none⟩) := (c.new 15 74 (by kernel_rfl) (by kernel_rfl))
          have hc := (c.ev.cell (p := ⟨gu, 7, none⟩) hgu).trans u7_
          generalize a.eval = ρ at e_0 ⊢
          simp [execOp, e_0, hc, go_sem]
        · refine op_value fun a wq c => ⟨(wanted_yes rfl (by kernel_rfl) (c.new 14 73 (by kernel_rfl) (by kernel_rfl))), .pointer (some ⟨gu, 7, none⟩), ?_, rfl⟩
          have e11 : a.eval (.tmp 11) = .pointer (some ⟨gu, 0, none⟩) := (c.was 11 (by kernel_rfl) rfl)
          generalize a.eval = ρ at e11 ⊢
          simp [execOp, e11, go_sem]
        · refine op_value fun a wq c => ⟨(wanted_yes rfl (by kernel_rfl) (c.new 14 73 (by kernel_rfl) (by kernel_rfl))), .slice (some ⟨b, off, none⟩) (nl + 1) u.cap, ?_, rfl⟩
          have e_0 : a.eval (.tmp 76) = .pointer (some ⟨gu, 7, none⟩) := (c.new 17 76 (by kernel_rfl) (by kernel_rfl))
          have hc := (c.ev.cell (p := ⟨gu, 7, none⟩) hgu).trans u7_
          generalize a.eval = ρ at e_0 ⊢
          simp [execOp, e_0, hc, go_sem]
        · refine op_value fun a wq c => ⟨(wanted_yes rfl (by kernel_rfl) (c.new 14 73 (by kernel_rfl) (by kernel_rfl))), _, run_len_succ rfl (c.new 18 77 (by kernel_rfl) (by kernel_rfl)) wq, rfl⟩
        · refine op_value fun a wq c => ⟨(wanted_yes rfl (by kernel_rfl) (c.new 14 73 (by kernel_rfl) (by kernel_rfl))), _, run_sub_one rfl (c.new 19 78 (by kernel_rfl) (by kernel_rfl)) (evc a _) (by omega) wq, rfl⟩
        · refine op_value fun a wq c => ⟨(wanted_yes rfl (by kernel_rfl) (c.new 14 73 (by kernel_rfl) (by kernel_rfl))), .pointer (some ⟨b, off + nl * 8, none⟩), ?_, rfl⟩
          have e75 : a.eval (.tmp 75) = .slice (some ⟨b, off, none⟩) (nl + 1) u.cap := (c.new 16 75 (by kernel_rfl) (by kernel_rfl))
          have e79 : a.eval (.tmp 79) = .int .i64 (nl : Int) := (c.new 20 79 (by kernel_rfl) (by kernel_rfl))
          generalize a.eval = ρ at e75 e79 ⊢
          simp [execOp, e75, e79, go_sem, show (0 : Int) ≤ (nl : Int) by omega, show (nl : Int) < (nl : Int) + 1 by omega]
        · refine op_value fun a wq c => ⟨(wanted_yes rfl (by kernel_rfl) (c.new 14 73 (by kernel_rfl) (by kernel_rfl))), _, run_load_plan y rfl (c.new 21 80 (by kernel_rfl) (by kernel_rfl)) (HPY.out.ev hb c.ev), rfl⟩
        · refine op_value fun a wq c => ⟨(wanted_yes rfl (by kernel_rfl) (c.new 14 73 (by kernel_rfl) (by kernel_rfl))), _, run_load_box2 rfl ((c.was 5 (by kernel_rfl) rfl) : a.eval (.tmp 5) = .pointer (some ⟨gm, 0, none⟩)) (BM.ev c.ev) Tryz.underlying27 rfl Tryz.sizePlan, rfl⟩
        · refine op_call fun a wq c => ⟨(wanted_yes rfl (by kernel_rfl) (c.new 14 73 (by kernel_rfl) (by kernel_rfl))), 9, #[pv y, pv m], ?_, ?_⟩
          · rw [run_call 9 _ _ rfl (by kernel_rfl)]
            have e81 : a.eval (.tmp 81) = pv y := (c.new 22 81 (by kernel_rfl) (by kernel_rfl))
            have e82 : a.eval (.tmp 82) = pv m := (c.new 23 82 (by kernel_rfl) (by kernel_rfl))
            simp [e81, e82]
          · refine (HKP.out wq c.ev).mono ?_
            rintro e w2 ⟨rfl, hE⟩
            exact ⟨_, rfl, hE, rfl⟩
        · refine op_value fun a wq c => ⟨(wanted_yes rfl (by kernel_rfl) (c.new 14 73 (by kernel_rfl) (by kernel_rfl))), .bool false, ?_, rfl⟩
          have e83 : a.eval (.tmp 83) = .bool true := (c.new 24 83 (by kernel_rfl) (by kernel_rfl))
          generalize a.eval = ρ at e83 ⊢
          simp [execOp, e83, go_sem]
        · refine op_value fun a wq c => ⟨(wanted_plain rfl), _, run_pick_false rfl (c.new 14 73 (by kernel_rfl) (by kernel_rfl)) wq, (c.new 25 84 (by kernel_rfl) (by kernel_rfl))⟩
        · refine op_value fun a wq c => ⟨(wanted_plain rfl), _, run_move _ rfl wq, (c.new 26 85 (by kernel_rfl) (by kernel_rfl))⟩
        · refine op_value fun a wq c => ⟨(wanted_yes rfl (by kernel_rfl) (c.new 27 86 (by kernel_rfl) (by kernel_rfl))), _, run_load_box2 rfl ((c.was 11 (by kernel_rfl) rfl) : a.eval (.tmp 11) = .pointer (some ⟨gu, 0, none⟩)) (BU.ev c.ev) Tryz.underlying27 rfl Tryz.sizePlan, rfl⟩
        · refine op_call fun a wq c => ⟨(wanted_yes rfl (by kernel_rfl) (c.new 27 86 (by kernel_rfl) (by kernel_rfl))), 11, #[pv u], ?_, ?_⟩
          · rw [run_call 11 _ _ rfl (by kernel_rfl)]
            have e87 : a.eval (.tmp 87) = pv u := (c.new 28 87 (by kernel_rfl) (by kernel_rfl))
            simp [e87]
          · refine (HPU.out wq c.ev).mono ?_
            rintro e w2 ⟨rfl, hE⟩
            exact ⟨_, rfl, hE, rfl⟩
        · refine op_value fun a wq c => ⟨(wanted_yes rfl (by kernel_rfl) (c.new 27 86 (by kernel_rfl) (by kernel_rfl))), _, run_move _ rfl wq, (c.was 10 (by kernel_rfl) rfl)⟩
        · refine op_value fun a wq c => ⟨(wanted_yes rfl (by kernel_rfl) (c.new 27 86 (by kernel_rfl) (by kernel_rfl))), _, run_move _ rfl wq, (c.was 9 (by kernel_rfl) rfl)⟩
        · refine op_value fun a wq c => ⟨(wanted_yes rfl (by kernel_rfl) (c.new 27 86 (by kernel_rfl) (by kernel_rfl))), _, run_cat rfl (c.new 30 89 (by kernel_rfl) (by kernel_rfl)) (c.new 31 90 (by kernel_rfl) (by kernel_rfl)) rfl (by rw [List.length_append]; omega) wq, rfl⟩
        · refine op_value fun a wq c => ⟨(wanted_yes rfl (by kernel_rfl) (c.new 27 86 (by kernel_rfl) (by kernel_rfl))), _, run_cat (b := [41]) rfl (c.new 32 91 (by kernel_rfl) (by kernel_rfl)) (evc a _) HXC.out (by omega) wq, rfl⟩
        · refine op_value fun a wq c => ⟨(wanted_yes rfl (by kernel_rfl) (c.new 27 86 (by kernel_rfl) (by kernel_rfl))), .bool false, ?_, rfl⟩
          have e88 : a.eval (.tmp 88) = .string ⟨XS.toArray⟩ := (c.new 29 88 (by kernel_rfl) (by kernel_rfl))
          have e92 : a.eval (.tmp 92) = .string ⟨XS.toArray⟩ := (c.new 33 92 (by kernel_rfl) (by kernel_rfl))
          generalize a.eval = ρ at e88 e92 ⊢
          simp [execOp, e88, e92, go_sem]
        · refine op_value fun a wq c => ⟨(wanted_plain rfl), _, run_pick_false rfl (c.new 27 86 (by kernel_rfl) (by kernel_rfl)) wq, (c.new 34 93 (by kernel_rfl) (by kernel_rfl))⟩
      intro sl wv hEr hold hnew
      have f0 : sl 0 = .string ⟨L.toArray⟩ := hold 0 (by kernel_rfl)
      have f1 : sl 1 = .int .i64 x1 := hold 1 (by kernel_rfl)
      have f2 : sl 2 = undef := hold 2 (by kernel_rfl)
      have f3 : sl 3 = undef := hold 3 (by kernel_rfl)
      have f4 : sl 4 = .bool false := hold 4 (by kernel_rfl)
      have f5 : sl 5 = .pointer (some ⟨gm, 0, none⟩) := hold 5 (by kernel_rfl)
      have f6 : sl 6 = .int .i64 0 := hold 6 (by kernel_rfl)
      have f7 : sl 7 = .int .i64 (Rx : Int) := hold 7 (by kernel_rfl)
      have f8 : sl 8 = .int .i64 (k : Int) := hold 8 (by kernel_rfl)
      have f9 : sl 9 = .string ⟨PS.toArray⟩ := hold 9 (by kernel_rfl)
      have f10 : sl 10 = .string ⟨WH.toArray⟩ := hold 10 (by kernel_rfl)
      have f11 : sl 11 = .pointer (some ⟨gu, 0, none⟩) := hold 11 (by kernel_rfl)
      have f12 : sl 12 = .int .i64 0 := hold 12 (by kernel_rfl)
      have f13 : sl 13 = .int .i64 (RX3 : Int) := hold 13 (by kernel_rfl)
      have f14 : sl 14 = .int .i64 wk := hold 14 (by kernel_rfl)
      have f15 : sl 15 = u15 := hold 15 (by kernel_rfl)
      have f16 : sl 16 = u16 := hold 16 (by kernel_rfl)
      have f17 : sl 17 = u17 := hold 17 (by kernel_rfl)
      have f18 : sl 18 = u18 := hold 18 (by kernel_rfl)
      have f19 : sl 19 = u19 := hold 19 (by kernel_rfl)
      have f20 : sl 20 = u20 := hold 20 (by kernel_rfl)
      have f21 : sl 21 = u21 := hold 21 (by kernel_rfl)
      have f22 : sl 22 = u22 := hold 22 (by kernel_rfl)
      have f23 : sl 23 = u23 := hold 23 (by kernel_rfl)
      have f24 : sl 24 = u24 := hold 24 (by kernel_rfl)
      have f25 : sl 25 = u25 := hold 25 (by kernel_rfl)
      have f26 : sl 26 = u26 := hold 26 (by kernel_rfl)
      have f27 : sl 27 = u27 := hold 27 (by kernel_rfl)
      have f28 : sl 28 = u28 := hold 28 (by kernel_rfl)
      have f29 : sl 29 = u29 := hold 29 (by kernel_rfl)
      have f30 : sl 30 = u30 := hold 30 (by kernel_rfl)
      have f31 : sl 31 = u31 := hold 31 (by kernel_rfl)
      have f32 : sl 32 = u32 := hold 32 (by kernel_rfl)
      have f33 : sl 33 = u33 := hold 33 (by kernel_rfl)
      have f34 : sl 34 = u34 := hold 34 (by kernel_rfl)
      have f35 : sl 35 = u35 := hold 35 (by kernel_rfl)
      have f36 : sl 36 = u36 := hold 36 (by kernel_rfl)
      have f37 : sl 37 = u37 := hold 37 (by kernel_rfl)
      have f38 : sl 38 = u38 := hold 38 (by kernel_rfl)
      have f39 : sl 39 = u39 := hold 39 (by kernel_rfl)
      have f40 : sl 40 = u40 := hold 40 (by kernel_rfl)
      have f41 : sl 41 = u41 := hold 41 (by kernel_rfl)
      have f42 : sl 42 = u42 := hold 42 (by kernel_rfl)
      have f43 : sl 43 = u43 := hold 43 (by kernel_rfl)
      have f44 : sl 44 = u44 := hold 44 (by kernel_rfl)
      have f45 : sl 45 = u45 := hold 45 (by kernel_rfl)
      have f46 : sl 46 = u46 := hold 46 (by kernel_rfl)
      have f47 : sl 47 = u47 := hold 47 (by kernel_rfl)
      have f48 : sl 48 = u48 := hold 48 (by kernel_rfl)
      have f49 : sl 49 = u49 := hold 49 (by kernel_rfl)
      have f50 : sl 50 = u50 := hold 50 (by kernel_rfl)
      have f51 : sl 51 = u51 := hold 51 (by kernel_rfl)
      have f52 : sl 52 = u52 := hold 52 (by kernel_rfl)
      have f53 : sl 53 = u53 := hold 53 (by kernel_rfl)
      have f54 : sl 54 = u54 := hold 54 (by kernel_rfl)
      have f55 : sl 55 = u55 := hold 55 (by kernel_rfl)
      have f56 : sl 56 = u56 := hold 56 (by kernel_rfl)
      have f57 : sl 57 = u57 := hold 57 (by kernel_rfl)
      have f58 : sl 58 = u58 := hold 58 (by kernel_rfl)
      have f95 : sl 95 = u95 := hold 95 (by kernel_rfl)
      have f96 : sl 96 = u96 := hold 96 (by kernel_rfl)
      have f97 : sl 97 = u97 := hold 97 (by kernel_rfl)
      have f98 : sl 98 = u98 := hold 98 (by kernel_rfl)
      have f99 : sl 99 = u99 := hold 99 (by kernel_rfl)
      have f100 : sl 100 = u100 := hold 100 (by kernel_rfl)
      have f101 : sl 101 = u101 := hold 101 (by kernel_rfl)
      have f102 : sl 102 = u102 := hold 102 (by kernel_rfl)
      have f103 : sl 103 = u103 := hold 103 (by kernel_rfl)
      have f104 : sl 104 = u104 := hold 104 (by kernel_rfl)
      have f105 : sl 105 = u105 := hold 105 (by kernel_rfl)
      have f106 : sl 106 = u106 := hold 106 (by kernel_rfl)
      have f107 : sl 107 = u107 := hold 107 (by kernel_rfl)
      have f108 : sl 108 = u108 := hold 108 (by kernel_rfl)
      have f109 : sl 109 = u109 := hold 109 (by kernel_rfl)
      have f110 : sl 110 = u110 := hold 110 (by kernel_rfl)
      have f111 : sl 111 = u111 := hold 111 (by kernel_rfl)
      have f112 : sl 112 = u112 := hold 112 (by kernel_rfl)
      have f113 : sl 113 = u113 := hold 113 (by kernel_rfl)
      have f114 : sl 114 = u114 := hold 114 (by kernel_rfl)
      have f115 : sl 115 = u115 := hold 115 (by kernel_rfl)
      have f116 : sl 116 = u116 := hold 116 (by kernel_rfl)
      have f117 : sl 117 = u117 := hold 117 (by kernel_rfl)
      have f118 : sl 118 = u118 := hold 118 (by kernel_rfl)
      have f119 : sl 119 = u119 := hold 119 (by kernel_rfl)
      have f120 : sl 120 = u120 := hold 120 (by kernel_rfl)
      have f121 : sl 121 = u121 := hold 121 (by kernel_rfl)
      have f59 : sl 59 = .int .i64 0 := hnew 0 59 (by kernel_rfl)
      have f60 : sl 60 = .bool false := hnew 1 60 (by kernel_rfl)
      have f61 : sl 61 = .bool false := hnew 2 61 (by kernel_rfl)
      have f62 : sl 62 = .pointer (some ⟨gu, 0, none⟩) := hnew 3 62 (by kernel_rfl)
      have f63 : sl 63 = .int .i64 wk := hnew 4 63 (by kernel_rfl)
      have f64 : sl 64 = .int .i64 wk := hnew 5 64 (by kernel_rfl)
      have f65 : sl 65 = .bool false := hnew 6 65 (by kernel_rfl)
      have f66 : sl 66 = .bool false := hnew 7 66 (by kernel_rfl)
      have f67 : sl 67 = .bool false := hnew 8 67 (by kernel_rfl)
      have f68 : sl 68 = .pointer (some ⟨gu, 7, none⟩) := hnew 9 68 (by kernel_rfl)
      have f69 : sl 69 = .slice (some ⟨b, off, none⟩) (nl + 1) u.cap := hnew 10 69 (by kernel_rfl)
      have f70 : sl 70 = .int .i64 ((nl : Int) + 1) := hnew 11 70 (by kernel_rfl)
      have f71 : sl 71 = .bool false := hnew 12 71 (by kernel_rfl)
      have f72 : sl 72 = .bool false := hnew 13 72 (by kernel_rfl)
      have f73 : sl 73 = .bool false := hnew 14 73 (by kernel_rfl)
      have f74 : sl 74 = .pointer (some ⟨gu, 7, none⟩) := hnew 15 74 (by kernel_rfl)
      have f75 : sl 75 = .slice (some ⟨b, off, none⟩) (nl + 1) u.cap := hnew 16 75 (by kernel_rfl)
      have f76 : sl 76 = .pointer (some ⟨gu, 7, none⟩) := hnew 17 76 (by kernel_rfl)
      have f77 : sl 77 = .slice (some ⟨b, off, none⟩) (nl + 1) u.cap := hnew 18 77 (by kernel_rfl)
      have f78 : sl 78 = .int .i64 ((nl : Int) + 1) := hnew 19 78 (by kernel_rfl)
      have f79 : sl 79 = .int .i64 (nl : Int) := hnew 20 79 (by kernel_rfl)
      have f80 : sl 80 = .pointer (some ⟨b, off + nl * 8, none⟩) := hnew 21 80 (by kernel_rfl)
      have f81 : sl 81 = pv y := hnew 22 81 (by kernel_rfl)
      have f82 : sl 82 = pv m := hnew 23 82 (by kernel_rfl)
      have f83 : sl 83 = .bool true := hnew 24 83 (by kernel_rfl)
      have f84 : sl 84 = .bool false := hnew 25 84 (by kernel_rfl)
      have f85 : sl 85 = .bool false := hnew 26 85 (by kernel_rfl)
      have f86 : sl 86 = .bool false := hnew 27 86 (by kernel_rfl)
      have f87 : sl 87 = pv u := hnew 28 87 (by kernel_rfl)
      have f88 : sl 88 = .string ⟨XS.toArray⟩ := hnew 29 88 (by kernel_rfl)
      have f89 : sl 89 = .string ⟨WH.toArray⟩ := hnew 30 89 (by kernel_rfl)
      have f90 : sl 90 = .string ⟨PS.toArray⟩ := hnew 31 90 (by kernel_rfl)
      have f91 : sl 91 = .string ⟨(WH ++ PS).toArray⟩ := hnew 32 91 (by kernel_rfl)
      have f92 : sl 92 = .string ⟨XS.toArray⟩ := hnew 33 92 (by kernel_rfl)
      have f93 : sl 93 = .bool false := hnew 34 93 (by kernel_rfl)
      have f94 : sl 94 = .bool false := hnew 35 94 (by kernel_rfl)
      change Exit.then _ _ .normal ⟨#[sl 0, sl 1, sl 2, sl 3, sl 4, sl 5, sl 6, sl 7, sl 8, sl 9, sl 10, sl 11, sl 12, sl 13, sl 14, sl 15, sl 16, sl 17, sl 18, sl 19, sl 20, sl 21, sl 22, sl 23, sl 24, sl 25, sl 26, sl 27, sl 28, sl 29, sl 30, sl 31, sl 32, sl 33, sl 34, sl 35, sl 36, sl 37, sl 38, sl 39, sl 40, sl 41, sl 42, sl 43, sl 44, sl 45, sl 46, sl 47, sl 48, sl 49, sl 50, sl 51, sl 52, sl 53, sl 54, sl 55, sl 56, sl 57, sl 58, sl 59, sl 60, sl 61, sl 62, sl 63, sl 64, sl 65, sl 66, sl 67, sl 68, sl 69, sl 70, sl 71, sl 72, sl 73, sl 74, sl 75, sl 76, sl 77, sl 78, sl 79, sl 80, sl 81, sl 82, sl 83, sl 84, sl 85, sl 86, sl 87, sl 88, sl 89, sl 90, sl 91, sl 92, sl 93, sl 94, sl 95, sl 96, sl 97, sl 98, sl 99, sl 100, sl 101, sl 102, sl 103, sl 104, sl 105, sl 106, sl 107, sl 108, sl 109, sl 110, sl 111, sl 112, sl 113, sl 114, sl 115, sl 116, sl 117, sl 118, sl 119, sl 120, sl 121], _⟩ _
      simp only [f0, f1, f2, f3, f4, f5, f6, f7, f8, f9, f10, f11, f12, f13, f14, f15, f16, f17, f18, f19, f20, f21, f22, f23, f24, f25, f26, f27, f28, f29, f30, f31, f32, f33, f34, f35, f36, f37, f38, f39, f40, f41, f42, f43, f44, f45, f46, f47, f48, f49, f50, f51, f52, f53, f54, f55, f56, f57, f58, f95, f96, f97, f98, f99, f100, f101, f102, f103, f104, f105, f106, f107, f108, f109, f110, f111, f112, f113, f114, f115, f116, f117, f118, f119, f120, f121, f59, f60, f61, f62, f63, f64, f65, f66, f67, f68, f69, f70, f71, f72, f73, f74, f75, f76, f77, f78, f79, f80, f81, f82, f83, f84, f85, f86, f87, f88, f89, f90, f91, f92, f93, f94]
      clear hold hnew
      have HEV := Lib.hid hEr
      have BU := BU.ev hEr
      have BM := BM.ev hEr
      have HUS := Lib.hid (fun n (hn : (wPlan k P).size = n) (hn6 : n ≤ 1000) w2 (hE : Ev wv w2) => size_at (wPlan k P) n hn (by omega) u w2 HUP.out ((HUQ7.out.ev HEV.out).ev hE))
      have HMS := Lib.hid (fun w2 (hE : Ev wv w2) => size_at P sz HSZ0.out.symm (by omega) m w2 HMP.out ((HMQ7.out.ev HEV.out).ev hE))
      have HKN := Lib.hid (fun w2 (hE : Ev wv w2) => HKn.out w2 ((E7.out.trans HEV.out).trans hE))
      clear hEr
      by_cases h4 : k = 4
      · subst h4
        have HUS := Lib.hid (HUS.out (sz + 2) (by rw [wPlan_size hk, ← HSZ0.out]; rfl) (by omega))
        go_upto_region 18 with fail
        refine wp_region_slots hmix [fun v _ => v = pv u, fun v _ => v = .int .i64 ((sz : Int) + 2), fun v _ => v = pv m, fun v _ => v = .int .i64 (sz : Int), fun v _ => v = .int .i64 ((sz : Int) + 2), fun v _ => v = .bool true, fun v _ => v = .bool true, fun v _ => v = .bool true, fun v _ => v = .bool true, fun v _ => v = .bool true]
          122 rfl (by kernel_rfl) ⟨mono_eq _, mono_eq _, mono_eq _, mono_eq _, mono_eq _, mono_eq _, mono_eq _, mono_eq _, mono_eq _, mono_eq _, trivial⟩ ?_ ?_
        · refine ops_cons 0 ?_ (ops_cons 1 ?_ (ops_cons 2 ?_ (ops_cons 3 ?_ (ops_cons 4 ?_ (ops_cons 5 ?_ (ops_cons 6 ?_ (ops_cons 7 ?_ (ops_cons 8 ?_ (ops_cons 9 ?_ (ops_nil 10))))))))))
          · refine op_value fun a wq c => ⟨(wanted_plain rfl), _, run_load_box2 rfl ((c.was 11 (by kernel_rfl) rfl) : a.eval (.tmp 11) = .pointer (some ⟨gu, 0, none⟩)) (BU.ev c.ev) Tryz.underlying27 rfl Tryz.sizePlan, rfl⟩
          · refine op_call fun a wq c => ⟨(wanted_plain rfl), 12, #[pv u], ?_, ?_⟩
            · rw [run_call 12 _ _ rfl (by kernel_rfl)]
              have e97 : a.eval (.tmp 97) = pv u := (c.new 0 97 (by kernel_rfl) (by kernel_rfl))
              simp [e97]
            · refine (HUS.out wq c.ev).mono ?_
              rintro e w2 ⟨rfl, hE⟩
              exact ⟨_, rfl, hE, by rw [Int.natCast_add]; rfl⟩
          · refine op_value fun a wq c => ⟨(wanted_plain rfl), _, run_load_box2 rfl ((c.was 5 (by kernel_rfl) rfl) : a.eval (.tmp 5) = .pointer (some ⟨gm, 0, none⟩)) (BM.ev c.ev) Tryz.underlying27 rfl Tryz.sizePlan, rfl⟩
          · refine op_call fun a wq c => ⟨(wanted_plain rfl), 12, #[pv m], ?_, ?_⟩
            · rw [run_call 12 _ _ rfl (by kernel_rfl)]
              have e99 : a.eval (.tmp 99) = pv m := (c.new 2 99 (by kernel_rfl) (by kernel_rfl))
              simp [e99]
            · refine (HMS.out wq c.ev).mono ?_
              rintro e w2 ⟨rfl, hE⟩
              exact ⟨_, rfl, hE, rfl⟩
          · refine op_value fun a wq c => ⟨(wanted_plain rfl), _, run_add_i64 rfl (c.new 3 100 (by kernel_rfl) (by kernel_rfl)) (evc a _) (by omega) (by omega) wq, rfl⟩
          · refine op_value fun a wq c => ⟨(wanted_plain rfl), .bool true, ?_, rfl⟩
            have e98 : a.eval (.tmp 98) = .int .i64 ((sz : Int) + 2) := (c.new 1 98 (by kernel_rfl) (by kernel_rfl))
            have e101 : a.eval (.tmp 101) = .int .i64 ((sz : Int) + 2) := (c.new 4 101 (by kernel_rfl) (by kernel_rfl))
            generalize a.eval = ρ at e98 e101 ⊢
            simp [execOp, e98, e101, go_sem]
          · refine op_value fun a wq c => ⟨(wanted_plain rfl), _, run_move _ rfl wq, (c.new 5 102 (by kernel_rfl) (by kernel_rfl))⟩
          · refine op_call fun a wq c => ⟨(wanted_yes rfl (by kernel_rfl) (c.new 6 103 (by kernel_rfl) (by kernel_rfl))), 10, #[], ?_, ?_⟩
            · rw [run_call 10 _ _ rfl (by kernel_rfl)]
              simp
            · refine (HKN.out wq c.ev).mono ?_
              rintro e w2 ⟨rfl, hE⟩
              exact ⟨_, rfl, hE, rfl⟩
          · refine op_value fun a wq c => ⟨(wanted_plain rfl), _, run_pick_true rfl (c.new 6 103 (by kernel_rfl) (by kernel_rfl)) wq, (c.new 7 104 (by kernel_rfl) (by kernel_rfl))⟩
          · refine op_value fun a wq c => ⟨(wanted_plain rfl), _, run_assign _ rfl wq, (c.new 8 105 (by kernel_rfl) (by kernel_rfl))⟩
        intro sl wv hEr hold hnew
        have f0 : sl 0 = .string ⟨L.toArray⟩ := hold 0 (by kernel_rfl)
        have f1 : sl 1 = .int .i64 x1 := hold 1 (by kernel_rfl)
        have f2 : sl 2 = undef := hold 2 (by kernel_rfl)
        have f3 : sl 3 = undef := hold 3 (by kernel_rfl)
        have f5 : sl 5 = .pointer (some ⟨gm, 0, none⟩) := hold 5 (by kernel_rfl)
        have f6 : sl 6 = .int .i64 0 := hold 6 (by kernel_rfl)
        have f7 : sl 7 = .int .i64 (Rx : Int) := hold 7 (by kernel_rfl)
        have f8 : sl 8 = .int .i64 ((4 : Nat) : Int) := hold 8 (by kernel_rfl)
        have f9 : sl 9 = .string ⟨PS.toArray⟩ := hold 9 (by kernel_rfl)
        have f10 : sl 10 = .string ⟨WH.toArray⟩ := hold 10 (by kernel_rfl)
        have f11 : sl 11 = .pointer (some ⟨gu, 0, none⟩) := hold 11 (by kernel_rfl)
        have f12 : sl 12 = .int .i64 0 := hold 12 (by kernel_rfl)
        have f13 : sl 13 = .int .i64 (RX3 : Int) := hold 13 (by kernel_rfl)
        have f14 : sl 14 = .int .i64 wk := hold 14 (by kernel_rfl)
        have f15 : sl 15 = u15 := hold 15 (by kernel_rfl)
        have f16 : sl 16 = u16 := hold 16 (by kernel_rfl)
        have f17 : sl 17 = u17 := hold 17 (by kernel_rfl)
        have f18 : sl 18 = u18 := hold 18 (by kernel_rfl)
        have f19 : sl 19 = u19 := hold 19 (by kernel_rfl)
        have f20 : sl 20 = u20 := hold 20 (by kernel_rfl)
        have f21 : sl 21 = u21 := hold 21 (by kernel_rfl)
        have f22 : sl 22 = u22 := hold 22 (by kernel_rfl)
        have f23 : sl 23 = u23 := hold 23 (by kernel_rfl)
        have f24 : sl 24 = u24 := hold 24 (by kernel_rfl)
        have f25 : sl 25 = u25 := hold 25 (by kernel_rfl)
        have f26 : sl 26 = u26 := hold 26 (by kernel_rfl)
        have f27 : sl 27 = u27 := hold 27 (by kernel_rfl)
        have f28 : sl 28 = u28 := hold 28 (by kernel_rfl)
        have f29 : sl 29 = u29 := hold 29 (by kernel_rfl)
        have f30 : sl 30 = u30 := hold 30 (by kernel_rfl)
        have f31 : sl 31 = u31 := hold 31 (by kernel_rfl)
        have f32 : sl 32 = u32 := hold 32 (by kernel_rfl)
        have f33 : sl 33 = u33 := hold 33 (by kernel_rfl)
        have f34 : sl 34 = u34 := hold 34 (by kernel_rfl)
        have f35 : sl 35 = u35 := hold 35 (by kernel_rfl)
        have f36 : sl 36 = u36 := hold 36 (by kernel_rfl)
        have f37 : sl 37 = u37 := hold 37 (by kernel_rfl)
        have f38 : sl 38 = u38 := hold 38 (by kernel_rfl)
        have f39 : sl 39 = u39 := hold 39 (by kernel_rfl)
        have f40 : sl 40 = u40 := hold 40 (by kernel_rfl)
        have f41 : sl 41 = u41 := hold 41 (by kernel_rfl)
        have f42 : sl 42 = u42 := hold 42 (by kernel_rfl)
        have f43 : sl 43 = u43 := hold 43 (by kernel_rfl)
        have f44 : sl 44 = u44 := hold 44 (by kernel_rfl)
        have f45 : sl 45 = u45 := hold 45 (by kernel_rfl)
        have f46 : sl 46 = u46 := hold 46 (by kernel_rfl)
        have f47 : sl 47 = u47 := hold 47 (by kernel_rfl)
        have f48 : sl 48 = u48 := hold 48 (by kernel_rfl)
        have f49 : sl 49 = u49 := hold 49 (by kernel_rfl)
        have f50 : sl 50 = u50 := hold 50 (by kernel_rfl)
        have f51 : sl 51 = u51 := hold 51 (by kernel_rfl)
        have f52 : sl 52 = u52 := hold 52 (by kernel_rfl)
        have f53 : sl 53 = u53 := hold 53 (by kernel_rfl)
        have f54 : sl 54 = u54 := hold 54 (by kernel_rfl)
        have f55 : sl 55 = u55 := hold 55 (by kernel_rfl)
        have f56 : sl 56 = u56 := hold 56 (by kernel_rfl)
        have f57 : sl 57 = u57 := hold 57 (by kernel_rfl)
        have f58 : sl 58 = u58 := hold 58 (by kernel_rfl)
        have f59 : sl 59 = .int .i64 0 := hold 59 (by kernel_rfl)
        have f60 : sl 60 = .bool false := hold 60 (by kernel_rfl)
        have f61 : sl 61 = .bool false := hold 61 (by kernel_rfl)
        have f62 : sl 62 = .pointer (some ⟨gu, 0, none⟩) := hold 62 (by kernel_rfl)
        have f63 : sl 63 = .int .i64 wk := hold 63 (by kernel_rfl)
        have f64 : sl 64 = .int .i64 wk := hold 64 (by kernel_rfl)
        have f65 : sl 65 = .bool false := hold 65 (by kernel_rfl)
        have f66 : sl 66 = .bool false := hold 66 (by kernel_rfl)
        have f67 : sl 67 = .bool false := hold 67 (by kernel_rfl)
        have f68 : sl 68 = .pointer (some ⟨gu, 7, none⟩) := hold 68 (by kernel_rfl)
        have f69 : sl 69 = .slice (some ⟨b, off, none⟩) (nl + 1) u.cap := hold 69 (by kernel_rfl)
        have f70 : sl 70 = .int .i64 ((nl : Int) + 1) := hold 70 (by kernel_rfl)
        have f71 : sl 71 = .bool false := hold 71 (by kernel_rfl)
        have f72 : sl 72 = .bool false := hold 72 (by kernel_rfl)
        have f73 : sl 73 = .bool false := hold 73 (by kernel_rfl)
        have f74 : sl 74 = .pointer (some ⟨gu, 7, none⟩) := hold 74 (by kernel_rfl)
        have f75 : sl 75 = .slice (some ⟨b, off, none⟩) (nl + 1) u.cap := hold 75 (by kernel_rfl)
        have f76 : sl 76 = .pointer (some ⟨gu, 7, none⟩) := hold 76 (by kernel_rfl)
        have f77 : sl 77 = .slice (some ⟨b, off, none⟩) (nl + 1) u.cap := hold 77 (by kernel_rfl)
        have f78 : sl 78 = .int .i64 ((nl : Int) + 1) := hold 78 (by kernel_rfl)
        have f79 : sl 79 = .int .i64 (nl : Int) := hold 79 (by kernel_rfl)
        have f80 : sl 80 = .pointer (some ⟨b, off + nl * 8, none⟩) := hold 80 (by kernel_rfl)
        have f81 : sl 81 = pv y := hold 81 (by kernel_rfl)
        have f82 : sl 82 = pv m := hold 82 (by kernel_rfl)
        have f83 : sl 83 = .bool true := hold 83 (by kernel_rfl)
        have f84 : sl 84 = .bool false := hold 84 (by kernel_rfl)
        have f85 : sl 85 = .bool false := hold 85 (by kernel_rfl)
        have f86 : sl 86 = .bool false := hold 86 (by kernel_rfl)
        have f87 : sl 87 = pv u := hold 87 (by kernel_rfl)
        have f88 : sl 88 = .string ⟨XS.toArray⟩ := hold 88 (by kernel_rfl)
        have f89 : sl 89 = .string ⟨WH.toArray⟩ := hold 89 (by kernel_rfl)
        have f90 : sl 90 = .string ⟨PS.toArray⟩ := hold 90 (by kernel_rfl)
        have f91 : sl 91 = .string { data := List.toArray (WH ++ PS) } := hold 91 (by kernel_rfl)
        have f92 : sl 92 = .string ⟨XS.toArray⟩ := hold 92 (by kernel_rfl)
        have f93 : sl 93 = .bool false := hold 93 (by kernel_rfl)
        have f94 : sl 94 = .bool false := hold 94 (by kernel_rfl)
        have f95 : sl 95 = .int .i64 ((4 : Nat) : Int) := hold 95 (by kernel_rfl)
        have f96 : sl 96 = .bool true := hold 96 (by kernel_rfl)
        have f106 : sl 106 = u106 := hold 106 (by kernel_rfl)
        have f107 : sl 107 = u107 := hold 107 (by kernel_rfl)
        have f108 : sl 108 = u108 := hold 108 (by kernel_rfl)
        have f109 : sl 109 = u109 := hold 109 (by kernel_rfl)
        have f110 : sl 110 = u110 := hold 110 (by kernel_rfl)
        have f111 : sl 111 = u111 := hold 111 (by kernel_rfl)
        have f112 : sl 112 = u112 := hold 112 (by kernel_rfl)
        have f113 : sl 113 = u113 := hold 113 (by kernel_rfl)
        have f114 : sl 114 = u114 := hold 114 (by kernel_rfl)
        have f115 : sl 115 = u115 := hold 115 (by kernel_rfl)
        have f116 : sl 116 = u116 := hold 116 (by kernel_rfl)
        have f117 : sl 117 = u117 := hold 117 (by kernel_rfl)
        have f118 : sl 118 = u118 := hold 118 (by kernel_rfl)
        have f119 : sl 119 = u119 := hold 119 (by kernel_rfl)
        have f120 : sl 120 = u120 := hold 120 (by kernel_rfl)
        have f121 : sl 121 = u121 := hold 121 (by kernel_rfl)
        have f4 : sl 4 = .bool true := hnew 9 4 (by kernel_rfl)
        have f97 : sl 97 = pv u := hnew 0 97 (by kernel_rfl)
        have f98 : sl 98 = .int .i64 ((sz : Int) + 2) := hnew 1 98 (by kernel_rfl)
        have f99 : sl 99 = pv m := hnew 2 99 (by kernel_rfl)
        have f100 : sl 100 = .int .i64 (sz : Int) := hnew 3 100 (by kernel_rfl)
        have f101 : sl 101 = .int .i64 ((sz : Int) + 2) := hnew 4 101 (by kernel_rfl)
        have f102 : sl 102 = .bool true := hnew 5 102 (by kernel_rfl)
        have f103 : sl 103 = .bool true := hnew 6 103 (by kernel_rfl)
        have f104 : sl 104 = .bool true := hnew 7 104 (by kernel_rfl)
        have f105 : sl 105 = .bool true := hnew 8 105 (by kernel_rfl)
        change Exit.then _ _ .normal ⟨#[sl 0, sl 1, sl 2, sl 3, sl 4, sl 5, sl 6, sl 7, sl 8, sl 9, sl 10, sl 11, sl 12, sl 13, sl 14, sl 15, sl 16, sl 17, sl 18, sl 19, sl 20, sl 21, sl 22, sl 23, sl 24, sl 25, sl 26, sl 27, sl 28, sl 29, sl 30, sl 31, sl 32, sl 33, sl 34, sl 35, sl 36, sl 37, sl 38, sl 39, sl 40, sl 41, sl 42, sl 43, sl 44, sl 45, sl 46, sl 47, sl 48, sl 49, sl 50, sl 51, sl 52, sl 53, sl 54, sl 55, sl 56, sl 57, sl 58, sl 59, sl 60, sl 61, sl 62, sl 63, sl 64, sl 65, sl 66, sl 67, sl 68, sl 69, sl 70, sl 71, sl 72, sl 73, sl 74, sl 75, sl 76, sl 77, sl 78, sl 79, sl 80, sl 81, sl 82, sl 83, sl 84, sl 85, sl 86, sl 87, sl 88, sl 89, sl 90, sl 91, sl 92, sl 93, sl 94, sl 95, sl 96, sl 97, sl 98, sl 99, sl 100, sl 101, sl 102, sl 103, sl 104, sl 105, sl 106, sl 107, sl 108, sl 109, sl 110, sl 111, sl 112, sl 113, sl 114, sl 115, sl 116, sl 117, sl 118, sl 119, sl 120, sl 121], _⟩ _
        simp only [f0, f1, f2, f3, f5, f6, f7, f8, f9, f10, f11, f12, f13, f14, f15, f16, f17, f18, f19, f20, f21, f22, f23, f24, f25, f26, f27, f28, f29, f30, f31, f32, f33, f34, f35, f36, f37, f38, f39, f40, f41, f42, f43, f44, f45, f46, f47, f48, f49, f50, f51, f52, f53, f54, f55, f56, f57, f58, f59, f60, f61, f62, f63, f64, f65, f66, f67, f68, f69, f70, f71, f72, f73, f74, f75, f76, f77, f78, f79, f80, f81, f82, f83, f84, f85, f86, f87, f88, f89, f90, f91, f92, f93, f94, f95, f96, f106, f107, f108, f109, f110, f111, f112, f113, f114, f115, f116, f117, f118, f119, f120, f121, f4, f97, f98, f99, f100, f101, f102, f103, f104, f105]
        clear hold hnew
        go_wp2
        go_ret
        exact ⟨rfl, (E7.out.trans HEV.out).trans hEr⟩
      · have hk4 : k < 4 := by omega
        have HUS := Lib.hid (HUS.out (sz + 1) (by rw [wPlan_size hk, ← HSZ0.out, if_neg h4]) (by omega))
        have HUT := Lib.hid (fun w2 (hE : Ev wv w2) => tabs_at (wPlan k P) (by rw [wPlan_size hk, ← HSZ0.out]; split <;> omega) u w2 HUP.out ((HUQ7.out.ev HEV.out).ev hE))
        have HMT := Lib.hid (fun w2 (hE : Ev wv w2) => tabs_at P (by rw [← HSZ0.out]; omega) m w2 HMP.out ((HMQ7.out.ev HEV.out).ev hE))
        have HTT := Lib.hid (fun (a b : Value) w2 (ha : TabF (wPlan k P) a w2) (hb : TabF P b w2) => tabs_same (fun x => wPlan_tabs hk4 P x) ha hb)
        have hk4b : ((k : Int) == 4) = false := by rw [beq_eq_false_iff_ne]; omega
        go_upto_region 19 with fail
        refine wp_region_slots hmix [fun v _ => v = pv u, fun v _ => v = .int .i64 ((sz : Int) + 1), fun v _ => v = pv m, fun v _ => v = .int .i64 (sz : Int), fun v _ => v = .int .i64 ((sz : Int) + 1), fun v _ => v = .bool true, fun v _ => v = .bool true, fun v _ => v = pv u, TabF (wPlan k P), fun v _ => v = pv m, TabF P, fun v _ => v = .bool true, fun v _ => v = .bool true, fun v _ => v = .bool true, fun v _ => v = .bool true, fun v _ => v = .bool true, fun v _ => v = .bool true]
          122 rfl (by kernel_rfl) ⟨mono_eq _, mono_eq _, mono_eq _, mono_eq _, mono_eq _, mono_eq _, mono_eq _, mono_eq _, TabF.mono _, mono_eq _, TabF.mono _, mono_eq _, mono_eq _, mono_eq _, mono_eq _, mono_eq _, mono_eq _, trivial⟩ ?_ ?_
        · refine ops_cons 0 ?_ (ops_cons 1 ?_ (ops_cons 2 ?_ (ops_cons 3 ?_ (ops_cons 4 ?_ (ops_cons 5 ?_ (ops_cons 6 ?_ (ops_cons 7 ?_ (ops_cons 8 ?_ (ops_cons 9 ?_ (ops_cons 10 ?_ (ops_cons 11 ?_ (ops_cons 12 ?_ (ops_cons 13 ?_ (ops_cons 14 ?_ (ops_cons 15 ?_ (ops_cons 16 ?_ (ops_nil 17)))))))))))))))))
          · refine op_value fun a wq c => ⟨(wanted_plain rfl), _, run_load_box2 rfl ((c.was 11 (by kernel_rfl) rfl) : a.eval (.tmp 11) = .pointer (some ⟨gu, 0, none⟩)) (BU.ev c.ev) Tryz.underlying27 rfl Tryz.sizePlan, rfl⟩
          · refine op_call fun a wq c => ⟨(wanted_plain rfl), 12, #[pv u], ?_, ?_⟩
            · rw [run_call 12 _ _ rfl (by kernel_rfl)]
              have e106 : a.eval (.tmp 106) = pv u := (c.new 0 106 (by kernel_rfl) (by kernel_rfl))
              simp [e106]
            · refine (HUS.out wq c.ev).mono ?_
              rintro e w2 ⟨rfl, hE⟩
              exact ⟨_, rfl, hE, by rw [Int.natCast_add]; rfl⟩
          · refine op_value fun a wq c => ⟨(wanted_plain rfl), _, run_load_box2 rfl ((c.was 5 (by kernel_rfl) rfl) : a.eval (.tmp 5) = .pointer (some ⟨gm, 0, none⟩)) (BM.ev c.ev) Tryz.underlying27 rfl Tryz.sizePlan, rfl⟩
          · refine op_call fun a wq c => ⟨(wanted_plain rfl), 12, #[pv m], ?_, ?_⟩
            · rw [run_call 12 _ _ rfl (by kernel_rfl)]
              have e108 : a.eval (.tmp 108) = pv m := (c.new 2 108 (by kernel_rfl) (by kernel_rfl))
              simp [e108]
            · refine (HMS.out wq c.ev).mono ?_
              rintro e w2 ⟨rfl, hE⟩
              exact ⟨_, rfl, hE, rfl⟩
          · refine op_value fun a wq c => ⟨(wanted_plain rfl), _, run_add_i64 rfl (c.new 3 109 (by kernel_rfl) (by kernel_rfl)) (evc a _) (by omega) (by omega) wq, rfl⟩
          · refine op_value fun a wq c => ⟨(wanted_plain rfl), .bool true, ?_, rfl⟩
            have e107 : a.eval (.tmp 107) = .int .i64 ((sz : Int) + 1) := (c.new 1 107 (by kernel_rfl) (by kernel_rfl))
            have e110 : a.eval (.tmp 110) = .int .i64 ((sz : Int) + 1) := (c.new 4 110 (by kernel_rfl) (by kernel_rfl))
            generalize a.eval = ρ at e107 e110 ⊢
            simp [execOp, e107, e110, go_sem]
          · refine op_value fun a wq c => ⟨(wanted_plain rfl), _, run_move _ rfl wq, (c.new 5 111 (by kernel_rfl) (by kernel_rfl))⟩
          · refine op_value fun a wq c => ⟨(wanted_yes rfl (by kernel_rfl) (c.new 6 112 (by kernel_rfl) (by kernel_rfl))), _, run_load_box2 rfl ((c.was 11 (by kernel_rfl) rfl) : a.eval (.tmp 11) = .pointer (some ⟨gu, 0, none⟩)) (BU.ev c.ev) Tryz.underlying27 rfl Tryz.sizePlan, rfl⟩
          · refine op_call fun a wq c => ⟨(wanted_yes rfl (by kernel_rfl) (c.new 6 112 (by kernel_rfl) (by kernel_rfl))), 14, #[pv u], ?_, ?_⟩
            · rw [run_call 14 _ _ rfl (by kernel_rfl)]
              have e113 : a.eval (.tmp 113) = pv u := (c.new 7 113 (by kernel_rfl) (by kernel_rfl))
              simp [e113]
            · refine (HUT.out wq c.ev).mono ?_
              rintro e w2 ⟨v_, rfl, hE, hT_⟩
              exact ⟨_, rfl, hE, hT_⟩
          · refine op_value fun a wq c => ⟨(wanted_yes rfl (by kernel_rfl) (c.new 6 112 (by kernel_rfl) (by kernel_rfl))), _, run_load_box2 rfl ((c.was 5 (by kernel_rfl) rfl) : a.eval (.tmp 5) = .pointer (some ⟨gm, 0, none⟩)) (BM.ev c.ev) Tryz.underlying27 rfl Tryz.sizePlan, rfl⟩
          · refine op_call fun a wq c => ⟨(wanted_yes rfl (by kernel_rfl) (c.new 6 112 (by kernel_rfl) (by kernel_rfl))), 14, #[pv m], ?_, ?_⟩
            · rw [run_call 14 _ _ rfl (by kernel_rfl)]
              have e115 : a.eval (.tmp 115) = pv m := (c.new 9 115 (by kernel_rfl) (by kernel_rfl))
              simp [e115]
            · refine (HMT.out wq c.ev).mono ?_
              rintro e w2 ⟨v_, rfl, hE, hT_⟩
              exact ⟨_, rfl, hE, hT_⟩
          · refine op_call fun a wq c => ?_
            have h1_ := (c.got 8 114 (by kernel_rfl) (by kernel_rfl) rfl : TabF (wPlan k P) _ _)
            have h2_ := (c.got 10 116 (by kernel_rfl) (by kernel_rfl) rfl : TabF P _ _)
            refine ⟨(wanted_yes rfl (by kernel_rfl) (c.new 6 112 (by kernel_rfl) (by kernel_rfl))), 13, #[a.eval (.tmp 114), a.eval (.tmp 116)], ?_, ?_⟩
            · rw [run_call 13 _ _ rfl (by kernel_rfl)]
              simp
            · refine (HTT.out _ _ wq h1_ h2_).mono ?_
              rintro e w2 ⟨rfl, hE⟩
              exact ⟨_, rfl, hE, rfl⟩
          · refine op_value fun a wq c => ⟨(wanted_plain rfl), _, run_pick_true rfl (c.new 6 112 (by kernel_rfl) (by kernel_rfl)) wq, (c.new 11 117 (by kernel_rfl) (by kernel_rfl))⟩
          · refine op_value fun a wq c => ⟨(wanted_plain rfl), _, run_move _ rfl wq, (c.new 12 118 (by kernel_rfl) (by kernel_rfl))⟩
          · refine op_call fun a wq c => ⟨(wanted_yes rfl (by kernel_rfl) (c.new 13 119 (by kernel_rfl) (by kernel_rfl))), 10, #[], ?_, ?_⟩
            · rw [run_call 10 _ _ rfl (by kernel_rfl)]
              simp
            · refine (HKN.out wq c.ev).mono ?_
              rintro e w2 ⟨rfl, hE⟩
              exact ⟨_, rfl, hE, rfl⟩
          · refine op_value fun a wq c => ⟨(wanted_plain rfl), _, run_pick_true rfl (c.new 13 119 (by kernel_rfl) (by kernel_rfl)) wq, (c.new 14 120 (by kernel_rfl) (by kernel_rfl))⟩
          · refine op_value fun a wq c => ⟨(wanted_plain rfl), _, run_assign _ rfl wq, (c.new 15 121 (by kernel_rfl) (by kernel_rfl))⟩
        intro sl wv hEr hold hnew
        have f0 : sl 0 = .string ⟨L.toArray⟩ := hold 0 (by kernel_rfl)
        have f1 : sl 1 = .int .i64 x1 := hold 1 (by kernel_rfl)
        have f2 : sl 2 = undef := hold 2 (by kernel_rfl)
        have f3 : sl 3 = undef := hold 3 (by kernel_rfl)
        have f5 : sl 5 = .pointer (some ⟨gm, 0, none⟩) := hold 5 (by kernel_rfl)
        have f6 : sl 6 = .int .i64 0 := hold 6 (by kernel_rfl)
        have f7 : sl 7 = .int .i64 (Rx : Int) := hold 7 (by kernel_rfl)
        have f8 : sl 8 = .int .i64 (k : Int) := hold 8 (by kernel_rfl)
        have f9 : sl 9 = .string ⟨PS.toArray⟩ := hold 9 (by kernel_rfl)
        have f10 : sl 10 = .string ⟨WH.toArray⟩ := hold 10 (by kernel_rfl)
        have f11 : sl 11 = .pointer (some ⟨gu, 0, none⟩) := hold 11 (by kernel_rfl)
        have f12 : sl 12 = .int .i64 0 := hold 12 (by kernel_rfl)
        have f13 : sl 13 = .int .i64 (RX3 : Int) := hold 13 (by kernel_rfl)
        have f14 : sl 14 = .int .i64 wk := hold 14 (by kernel_rfl)
        have f15 : sl 15 = u15 := hold 15 (by kernel_rfl)
        have f16 : sl 16 = u16 := hold 16 (by kernel_rfl)
        have f17 : sl 17 = u17 := hold 17 (by kernel_rfl)
        have f18 : sl 18 = u18 := hold 18 (by kernel_rfl)
        have f19 : sl 19 = u19 := hold 19 (by kernel_rfl)
        have f20 : sl 20 = u20 := hold 20 (by kernel_rfl)
        have f21 : sl 21 = u21 := hold 21 (by kernel_rfl)
        have f22 : sl 22 = u22 := hold 22 (by kernel_rfl)
        have f23 : sl 23 = u23 := hold 23 (by kernel_rfl)
        have f24 : sl 24 = u24 := hold 24 (by kernel_rfl)
        have f25 : sl 25 = u25 := hold 25 (by kernel_rfl)
        have f26 : sl 26 = u26 := hold 26 (by kernel_rfl)
        have f27 : sl 27 = u27 := hold 27 (by kernel_rfl)
        have f28 : sl 28 = u28 := hold 28 (by kernel_rfl)
        have f29 : sl 29 = u29 := hold 29 (by kernel_rfl)
        have f30 : sl 30 = u30 := hold 30 (by kernel_rfl)
        have f31 : sl 31 = u31 := hold 31 (by kernel_rfl)
        have f32 : sl 32 = u32 := hold 32 (by kernel_rfl)
        have f33 : sl 33 = u33 := hold 33 (by kernel_rfl)
        have f34 : sl 34 = u34 := hold 34 (by kernel_rfl)
        have f35 : sl 35 = u35 := hold 35 (by kernel_rfl)
        have f36 : sl 36 = u36 := hold 36 (by kernel_rfl)
        have f37 : sl 37 = u37 := hold 37 (by kernel_rfl)
        have f38 : sl 38 = u38 := hold 38 (by kernel_rfl)
        have f39 : sl 39 = u39 := hold 39 (by kernel_rfl)
        have f40 : sl 40 = u40 := hold 40 (by kernel_rfl)
        have f41 : sl 41 = u41 := hold 41 (by kernel_rfl)
        have f42 : sl 42 = u42 := hold 42 (by kernel_rfl)
        have f43 : sl 43 = u43 := hold 43 (by kernel_rfl)
        have f44 : sl 44 = u44 := hold 44 (by kernel_rfl)
        have f45 : sl 45 = u45 := hold 45 (by kernel_rfl)
        have f46 : sl 46 = u46 := hold 46 (by kernel_rfl)
        have f47 : sl 47 = u47 := hold 47 (by kernel_rfl)
        have f48 : sl 48 = u48 := hold 48 (by kernel_rfl)
        have f49 : sl 49 = u49 := hold 49 (by kernel_rfl)
        have f50 : sl 50 = u50 := hold 50 (by kernel_rfl)
        have f51 : sl 51 = u51 := hold 51 (by kernel_rfl)
        have f52 : sl 52 = u52 := hold 52 (by kernel_rfl)
        have f53 : sl 53 = u53 := hold 53 (by kernel_rfl)
        have f54 : sl 54 = u54 := hold 54 (by kernel_rfl)
        have f55 : sl 55 = u55 := hold 55 (by kernel_rfl)
        have f56 : sl 56 = u56 := hold 56 (by kernel_rfl)
        have f57 : sl 57 = u57 := hold 57 (by kernel_rfl)
        have f58 : sl 58 = u58 := hold 58 (by kernel_rfl)
        have f59 : sl 59 = .int .i64 0 := hold 59 (by kernel_rfl)
        have f60 : sl 60 = .bool false := hold 60 (by kernel_rfl)
        have f61 : sl 61 = .bool false := hold 61 (by kernel_rfl)
        have f62 : sl 62 = .pointer (some ⟨gu, 0, none⟩) := hold 62 (by kernel_rfl)
        have f63 : sl 63 = .int .i64 wk := hold 63 (by kernel_rfl)
        have f64 : sl 64 = .int .i64 wk := hold 64 (by kernel_rfl)
        have f65 : sl 65 = .bool false := hold 65 (by kernel_rfl)
        have f66 : sl 66 = .bool false := hold 66 (by kernel_rfl)
        have f67 : sl 67 = .bool false := hold 67 (by kernel_rfl)
        have f68 : sl 68 = .pointer (some ⟨gu, 7, none⟩) := hold 68 (by kernel_rfl)
        have f69 : sl 69 = .slice (some ⟨b, off, none⟩) (nl + 1) u.cap := hold 69 (by kernel_rfl)
        have f70 : sl 70 = .int .i64 ((nl : Int) + 1) := hold 70 (by kernel_rfl)
        have f71 : sl 71 = .bool false := hold 71 (by kernel_rfl)
        have f72 : sl 72 = .bool false := hold 72 (by kernel_rfl)
        have f73 : sl 73 = .bool false := hold 73 (by kernel_rfl)
        have f74 : sl 74 = .pointer (some ⟨gu, 7, none⟩) := hold 74 (by kernel_rfl)
        have f75 : sl 75 = .slice (some ⟨b, off, none⟩) (nl + 1) u.cap := hold 75 (by kernel_rfl)
        have f76 : sl 76 = .pointer (some ⟨gu, 7, none⟩) := hold 76 (by kernel_rfl)
        have f77 : sl 77 = .slice (some ⟨b, off, none⟩) (nl + 1) u.cap := hold 77 (by kernel_rfl)
        have f78 : sl 78 = .int .i64 ((nl : Int) + 1) := hold 78 (by kernel_rfl)
        have f79 : sl 79 = .int .i64 (nl : Int) := hold 79 (by kernel_rfl)
        have f80 : sl 80 = .pointer (some ⟨b, off + nl * 8, none⟩) := hold 80 (by kernel_rfl)
        have f81 : sl 81 = pv y := hold 81 (by kernel_rfl)
        have f82 : sl 82 = pv m := hold 82 (by kernel_rfl)
        have f83 : sl 83 = .bool true := hold 83 (by kernel_rfl)
        have f84 : sl 84 = .bool false := hold 84 (by kernel_rfl)
        have f85 : sl 85 = .bool false := hold 85 (by kernel_rfl)
        have f86 : sl 86 = .bool false := hold 86 (by kernel_rfl)
        have f87 : sl 87 = pv u := hold 87 (by kernel_rfl)
        have f88 : sl 88 = .string ⟨XS.toArray⟩ := hold 88 (by kernel_rfl)
        have f89 : sl 89 = .string ⟨WH.toArray⟩ := hold 89 (by kernel_rfl)
        have f90 : sl 90 = .string ⟨PS.toArray⟩ := hold 90 (by kernel_rfl)
        have f91 : sl 91 = .string { data := List.toArray (WH ++ PS) } := hold 91 (by kernel_rfl)
        have f92 : sl 92 = .string ⟨XS.toArray⟩ := hold 92 (by kernel_rfl)
        have f93 : sl 93 = .bool false := hold 93 (by kernel_rfl)
        have f94 : sl 94 = .bool false := hold 94 (by kernel_rfl)
        have f95 : sl 95 = .int .i64 (k : Int) := hold 95 (by kernel_rfl)
        have f96 : sl 96 = .bool false := hold 96 (by kernel_rfl)
        have f97 : sl 97 = u97 := hold 97 (by kernel_rfl)
        have f98 : sl 98 = u98 := hold 98 (by kernel_rfl)
        have f99 : sl 99 = u99 := hold 99 (by kernel_rfl)
        have f100 : sl 100 = u100 := hold 100 (by kernel_rfl)
        have f101 : sl 101 = u101 := hold 101 (by kernel_rfl)
        have f102 : sl 102 = u102 := hold 102 (by kernel_rfl)
        have f103 : sl 103 = u103 := hold 103 (by kernel_rfl)
        have f104 : sl 104 = u104 := hold 104 (by kernel_rfl)
        have f105 : sl 105 = u105 := hold 105 (by kernel_rfl)
        have f4 : sl 4 = .bool true := hnew 16 4 (by kernel_rfl)
        have f106 : sl 106 = pv u := hnew 0 106 (by kernel_rfl)
        have f107 : sl 107 = .int .i64 ((sz : Int) + 1) := hnew 1 107 (by kernel_rfl)
        have f108 : sl 108 = pv m := hnew 2 108 (by kernel_rfl)
        have f109 : sl 109 = .int .i64 (sz : Int) := hnew 3 109 (by kernel_rfl)
        have f110 : sl 110 = .int .i64 ((sz : Int) + 1) := hnew 4 110 (by kernel_rfl)
        have f111 : sl 111 = .bool true := hnew 5 111 (by kernel_rfl)
        have f112 : sl 112 = .bool true := hnew 6 112 (by kernel_rfl)
        have f113 : sl 113 = pv u := hnew 7 113 (by kernel_rfl)
        have f115 : sl 115 = pv m := hnew 9 115 (by kernel_rfl)
        have f117 : sl 117 = .bool true := hnew 11 117 (by kernel_rfl)
        have f118 : sl 118 = .bool true := hnew 12 118 (by kernel_rfl)
        have f119 : sl 119 = .bool true := hnew 13 119 (by kernel_rfl)
        have f120 : sl 120 = .bool true := hnew 14 120 (by kernel_rfl)
        have f121 : sl 121 = .bool true := hnew 15 121 (by kernel_rfl)
        change Exit.then _ _ .normal ⟨#[sl 0, sl 1, sl 2, sl 3, sl 4, sl 5, sl 6, sl 7, sl 8, sl 9, sl 10, sl 11, sl 12, sl 13, sl 14, sl 15, sl 16, sl 17, sl 18, sl 19, sl 20, sl 21, sl 22, sl 23, sl 24, sl 25, sl 26, sl 27, sl 28, sl 29, sl 30, sl 31, sl 32, sl 33, sl 34, sl 35, sl 36, sl 37, sl 38, sl 39, sl 40, sl 41, sl 42, sl 43, sl 44, sl 45, sl 46, sl 47, sl 48, sl 49, sl 50, sl 51, sl 52, sl 53, sl 54, sl 55, sl 56, sl 57, sl 58, sl 59, sl 60, sl 61, sl 62, sl 63, sl 64, sl 65, sl 66, sl 67, sl 68, sl 69, sl 70, sl 71, sl 72, sl 73, sl 74, sl 75, sl 76, sl 77, sl 78, sl 79, sl 80, sl 81, sl 82, sl 83, sl 84, sl 85, sl 86, sl 87, sl 88, sl 89, sl 90, sl 91, sl 92, sl 93, sl 94, sl 95, sl 96, sl 97, sl 98, sl 99, sl 100, sl 101, sl 102, sl 103, sl 104, sl 105, sl 106, sl 107, sl 108, sl 109, sl 110, sl 111, sl 112, sl 113, sl 114, sl 115, sl 116, sl 117, sl 118, sl 119, sl 120, sl 121], _⟩ _
        simp only [f0, f1, f2, f3, f5, f6, f7, f8, f9, f10, f11, f12, f13, f14, f15, f16, f17, f18, f19, f20, f21, f22, f23, f24, f25, f26, f27, f28, f29, f30, f31, f32, f33, f34, f35, f36, f37, f38, f39, f40, f41, f42, f43, f44, f45, f46, f47, f48, f49, f50, f51, f52, f53, f54, f55, f56, f57, f58, f59, f60, f61, f62, f63, f64, f65, f66, f67, f68, f69, f70, f71, f72, f73, f74, f75, f76, f77, f78, f79, f80, f81, f82, f83, f84, f85, f86, f87, f88, f89, f90, f91, f92, f93, f94, f95, f96, f97, f98, f99, f100, f101, f102, f103, f104, f105, f4, f106, f107, f108, f109, f110, f111, f112, f113, f115, f117, f118, f119, f120, f121]
        clear hold hnew
        go_wp2
        go_ret
        exact ⟨rfl, (E7.out.trans HEV.out).trans hEr⟩
    · have hc14 : (RW3 == 14) = false := by rw [hc]; rfl
      have hc3 : (RW3 == 3) = true := by rw [hc]; rfl
      clear HWX
      go_wp2_with (first
        | ((with_reducible refine (HR3.out _ E4.out).mono ?_); rintro r w5 ⟨u, rfl, hup, huq, hE5⟩; simp only []; obtain ⟨w6, hw6, hE6, hB6, _⟩ := bx_pl w5 u; have E6 := Lib.hid ((E4.out.trans hE5).trans hE6); clear hup huq hE5 hE6 hB6)
        | ((with_reducible refine (HKn.out _ E6.out).mono ?_); rintro r w7 ⟨rfl, hE7⟩))
      go_ret
      exact ⟨rfl, E6.out.trans hE7⟩
    · have hc14 : (RW3 == 14) = true := by rw [hc]; rfl
      have hc3 : (RW3 == 3) = false := by rw [hc]; rfl
      clear HWX
      go_wp2_with (first
        | ((with_reducible refine (HR3.out _ E4.out).mono ?_); rintro r w5 ⟨u, rfl, hup, huq, hE5⟩; simp only []; obtain ⟨w6, hw6, hE6, hB6, _⟩ := bx_pl w5 u; have E6 := Lib.hid ((E4.out.trans hE5).trans hE6); clear hup huq hE5 hE6 hB6)
        | ((with_reducible refine (HKn.out _ E6.out).mono ?_); rintro r w7 ⟨rfl, hE7⟩))
      go_ret
      exact ⟨rfl, E6.out.trans hE7⟩
  · have hw' : (Rw != 0) = true := bne_iff_ne.2 hw
    clear hwr
    go_wp2_with (first
      | ((with_reducible refine (HR.out _ HE0.out).mono ?_); rintro r w1 ⟨m, rfl, hmp, hmq, hE1⟩; simp only []; obtain ⟨w2, hw2, hE2, hB2, _⟩ := bx_pl w1 m; have E2 := Lib.hid (hE1.trans hE2); clear hmp hmq hE1 hE2 hB2)
      | ((with_reducible refine (HKn.out _ E2.out).mono ?_); rintro r w4 ⟨rfl, hE4⟩))
    go_ret
    exact ⟨rfl, E2.out.trans hE4⟩
end Go.Proofs.YtojbahjebfcmgaaGreatDoor
