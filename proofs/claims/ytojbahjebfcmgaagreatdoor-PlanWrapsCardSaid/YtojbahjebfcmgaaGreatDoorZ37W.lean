/-
  Texts that belong together: The walk of PlanBack.
-/
import Derived.Deep.DeepCutAuto
import Derived.Test.YtojbahjebfcmgaaGreatDoorZ36W
import Derived.Test.YtojbahjebfcmgaaGreatDoorZ20W
import Derived.Test.YtojbahjebfcmgaaGreatDoorZ35W
namespace Go.Proofs.YtojbahjebfcmgaaGreatDoor
open Go.RowKit
set_option linter.unusedVariables false

set_option maxRecDepth 100000 in
set_option maxHeartbeats 32000000 in
theorem pback_walk (s0 : ByteArray) (w : World) (hTab : Tab w) (u0 : s0.size ≤ maxLen) :
    Calls Tryz.prog 3 #[.string s0] w fun e w' => e = .returned (.bool true) ∧ Ev w w' := by
  have hmix : Tryz.prog.follows .mixedOrders = true := by kernel_rfl
  unfold maxLen at u0
  have HTAB := Lib.hid hTab
  have HE0 := Lib.hid (Ev.refl w)
  clear hTab
  go_enter Tryz.func3, Tryz.ntmps3
  go_upto_if 17 with fail
  go_cut [0] (fun v wx => ∃ s1 : ByteArray, v = .string s1 ∧ s1.size ≤ 700 ∧ w = wx)
  case first =>
    by_cases hs : (700 : Int) < (s0.size : Int)
    · have hz : (s0.extract 0 700).size = 700 := by
        have h1 : (s0.extract 0 700).data.toList.length = (s0.extract 0 700).size := by rw [Array.length_toList]; rfl
        have h2 : s0.data.toList.length = s0.size := by rw [Array.length_toList]; rfl
        rw [← h1, Lib.extract_eq, List.drop_zero, List.length_take, h2]
        omega
      have HZ := Lib.hid hz
      have i1 : (700 : Int) ≤ (s0.size : Int) := by omega
      clear hz
      go_wp2_with fail
      go_meet
      exact ⟨s0.extract 0 700, rfl, by rw [HZ.out]; exact Nat.le_refl _, rfl⟩
    · go_wp2_with fail
      go_meet
      exact ⟨s0, rfl, by omega, rfl⟩
  case rest =>
  obtain ⟨s1, rfl, hs1, rfl⟩ := hcut
  clear u0
  obtain ⟨L, rfl⟩ : ∃ L : By, s1 = ⟨L.toArray⟩ := ⟨s1.data.toList, by simp⟩
  have hL7 : L.length ≤ 700 := by simpa [ByteArray.size] using hs1
  have HR := Lib.hid (fun w1 (hE : Ev w w1) => pl_Read L w1 (HTAB.out.ev hE) (by omega))
  have HKn := Lib.hid (fun w1 (hE : Ev w w1) => known9_any w1 (HTAB.out.ev hE))
  have hwr := pRead_wr L
  have hbad := pRead_bad L
  unfold PReadOut at HR
  generalize pRead L = R at *
  obtain ⟨P, Rw, Rx⟩ := R
  simp only at HR hwr hbad
  by_cases hw : Rw = 0
  · subst hw
    have hW := hwr rfl
    have HW := Lib.hid hW
    obtain ⟨PS, hPS⟩ : ∃ PS, PS = printS (pTree P) := ⟨_, rfl⟩
    have hlen : PS.length ≤ 600 := by rw [hPS]; exact hW.len6
    have hne : 1 ≤ PS.length := by rw [hPS]; exact hW.ne
    have HPR : Hid (∀ (m : PM) w1, Ev w w1 → m.p = P → Qx 0 [] w1 m → Calls Tryz.prog 11 #[.agg #[.int .i64 m.kind, .string ⟨m.name.toArray⟩, .slice m.ex.A m.ex.l.length m.ex.cap, .slice m.co.A m.co.l.length m.co.cap, .slice m.lf.A m.lf.l.length m.lf.cap, .slice m.rt.A m.rt.l.length m.rt.cap, .slice m.ag.A m.ag.l.length m.ag.cap, .slice m.A m.kids.length m.cap]] w1 fun e w' => e = .returned (.string ⟨PS.toArray⟩) ∧ Ev w1 w') := Lib.hid fun m w1 hE hm hL => print_at P HW.out PS hPS m w1 (HTAB.out.ev hE) hm hL
    obtain ⟨sz, hsz⟩ : ∃ sz, sz = P.size := ⟨_, rfl⟩
    have hsz6 : sz ≤ 600 := by rw [hsz]; exact hW.size_le
    have HSZ : Hid (∀ (m : PM) w1, m.p = P → Qx 0 [] w1 m → Calls Tryz.prog 12 #[.agg #[.int .i64 m.kind, .string ⟨m.name.toArray⟩, .slice m.ex.A m.ex.l.length m.ex.cap, .slice m.co.A m.co.l.length m.co.cap, .slice m.lf.A m.lf.l.length m.lf.cap, .slice m.rt.A m.rt.l.length m.rt.cap, .slice m.ag.A m.ag.l.length m.ag.cap, .slice m.A m.kids.length m.cap]] w1 fun e w' => e = .returned (.int .i64 (sz : Int)) ∧ Ev w1 w') := Lib.hid fun m w1 hm hL => size_at P sz hsz.symm (by omega) m w1 hm hL
    have HR2 : Hid (∀ w1, Ev w w1 → Calls Tryz.prog 8 #[.string ⟨PS.toArray⟩] w1 (PReadOut (P, 0, 0) w1)) := Lib.hid fun w1 hE => by
      have h := pl_Read PS w1 (HTAB.out.ev hE) (by omega)
      rw [show pRead PS = (P, 0, 0) by rw [hPS]; exact (pRead_print P hW.wr.good).1 hW.len6 hW.deep] at h
      exact h
    have HKP := Lib.hid (fun (m m' : PM) w1 (hm : m.p = P) (hm' : m'.p = P) (h1 : Qx 0 [] w1 m) (h2 : Qx 0 [] w1 m') => keep_plan m m' 0 0 w1 h1 h2 (hm.trans hm'.symm))
    obtain ⟨XS, hXS⟩ : ∃ XS, XS = wHead 0 ++ (PS ++ [41]) := ⟨_, rfl⟩
    have hcat : (⟨#[40, 100, 105, 115, 116, 105, 110, 99, 116, 32]⟩ : ByteArray) ++ ⟨PS.toArray⟩ ++ ⟨#[41]⟩ = ⟨XS.toArray⟩ := by
      have h1 := sx_cat (wHead 0) PS
      have h2 := sx_cat (wHead 0 ++ PS) [41]
      rw [← h1, List.append_assoc, ← hXS] at h2
      exact h2
    have hXlen : XS.length ≤ 700 := by rw [hXS]; simp [wHead]; omega
    have HR3 := Lib.hid (fun w1 (hE : Ev w w1) => pl_Read XS w1 (HTAB.out.ev hE) (by omega))
    have hcase := wrap_read (k := 0) (by omega) hW.wr.good
    rw [← hPS, ← hXS] at hcase
    have hz := sx_size PS
    have hKids := good_kids hW.wr.good
    have HKW := Lib.hid (fun k (hk : k ∈ P.kids) => kid_wr hW hk)
    have HPE := Lib.hid (Pl.size_eq P)
    have HSZ0 := Lib.hid hsz
    have hpsb : ((PS.length : Int) == 0) = false := by rw [beq_eq_false_iff_ne]; omega
    unfold PReadOut at HR2 HR3
    unfold Yes at HKP
    unfold pv Sle.v PM.kv at HKP
    generalize pRead XS = R3 at *
    obtain ⟨RP3, RW3, RX3⟩ := R3
    simp only at HR2 HR3 hcase
    have HCASE := Lib.hid hcase
    have HCAT := Lib.hid hcat
    clear hW hwr hbad hXS hPS hsz hcase hKids
    clear hcat
    have hcat := HCAT.out
    go_upto_region 14 with (first
      | ((with_reducible refine (HR.out _ HE0.out).mono ?_); rintro r w1 ⟨m, rfl, hmp, hmq, hE1⟩; simp only []; obtain ⟨w2, hw2, hE2, hB2, _⟩ := bx_pl w1 m; have E2 := Lib.hid (hE1.trans hE2); have HMP := Lib.hid hmp; have HMQ := Lib.hid ((hmq.ev hE2).low (Nat.zero_le _)); have HBM := Lib.hid hB2; obtain ⟨⟨p0, p1, p2, p3, p4, p5, p6, p7⟩, _⟩ := hB2.eight; clear hmp hmq hE1 hE2 hB2)
      | ((with_reducible refine (HPR.out m _ E2.out HMP.out HMQ.out).mono ?_); rintro r w3 ⟨rfl, hE3⟩; have E3 := Lib.hid hE3; clear hE3 p0 p1 p2 p3 p4 p5 p6 p7)
      | ((with_reducible refine (HR2.out _ (E2.out.trans E3.out)).mono ?_); rintro r w4 ⟨q, rfl, hqp, hqq, hE4⟩; simp only []; obtain ⟨w5, hw5, hE5, hB5, _⟩ := bx_pl w4 q; have E5 := Lib.hid ((E3.out.trans hE4).trans hE5); have HQP := Lib.hid hqp; have HQQ := Lib.hid ((hqq.ev hE5).low (Nat.zero_le _)); have HBQ := Lib.hid hB5; obtain ⟨⟨p0, p1, p2, p3, p4, p5, p6, p7⟩, _⟩ := (HBM.out.ev E5.out).eight; obtain ⟨⟨q0, q1, q2, q3, q4, q5, q6, q7⟩, _⟩ := hB5.eight; clear hqp hqq hE4 hE5 hB5)
      | ((with_reducible refine (HKP.out m q _ HMP.out HQP.out (HMQ.out.ev E5.out) HQQ.out).mono ?_); rintro r w6 ⟨rfl, hE6⟩; have E6 := Lib.hid hE6; clear hE6 p0 p1 p2 p3 p4 p5 p6 p7 q0 q1 q2 q3 q4 q5 q6 q7; obtain ⟨⟨q0, q1, q2, q3, q4, q5, q6, q7⟩, _⟩ := (HBQ.out.ev E6.out).eight)
      | ((with_reducible refine (HPR.out q _ ((E2.out.trans E5.out).trans E6.out) HQP.out (HQQ.out.ev E6.out)).mono ?_); rintro r w7 ⟨rfl, hE7⟩; have E7 := Lib.hid ((E2.out.trans E5.out).trans (E6.out.trans hE7)); have HMQ7 := Lib.hid ((HMQ.out.ev E5.out).ev (E6.out.trans hE7)); have HBM7 := Lib.hid ((HBM.out.ev E5.out).ev (E6.out.trans hE7)); clear hE7 q0 q1 q2 q3 q4 q5 q6 q7))
    have hpk : P.kids = m.kids.map PM.p := by rw [← HMP.out, PM.p_eq]; rfl
    have HPK := Lib.hid hpk
    have HKS := Lib.hid HMQ7.out.ps
    have hle := HKS.out.le
    have hmx := HKS.out.max
    obtain ⟨nk, hnk⟩ : ∃ nk, nk = m.kids.length := ⟨_, rfl⟩
    have HNK := Lib.hid hnk
    rw [← hnk] at hle
    obtain ⟨gm, hgm⟩ : ∃ gm, gm = w1.heap.size := ⟨_, rfl⟩
    clear hpk hnk hgm
    have HBX : Hid (∀ wr, Ev w7 wr → wr.cell? ⟨w1.heap.size, 7, none⟩ = some (.slice m.A nk m.cap)) := Lib.hid fun wr hE => by
      obtain ⟨⟨_, _, _, _, _, _, _, h7⟩, _⟩ := (HBM7.out.ev hE).eight
      rw [HNK.out]
      exact h7
    have b7 := HBX.out _ (Ev.refl _)
    go_loopw [10, 11] (fun nv iv wr => ∃ (s k : Nat), nv = .int .i64 (s : Int) ∧ iv = .int .i64 (k : Int) ∧ k ≤ nk ∧ s ≤ 600 ∧ Hid (s = ((m.kids.take k).map fun y => y.p.size).sum + 1) ∧ Hid (Ev w7 wr)) (fun _ iv _ => nk - (intOf iv).toNat)
    case atStart => exact ⟨1, 0, rfl, rfl, Nat.zero_le _, by omega, Lib.hid rfl, Lib.hid (Ev.refl _)⟩
    case round =>
      obtain ⟨s, k, rfl, rfl, hk, hs6, HSS, HER⟩ := hrel
      clear b7
      have b7 := HBX.out _ HER.out
      by_cases hlt : k < nk
      · obtain ⟨x, hx⟩ := HKS.out.at (by rw [← HNK.out]; exact hlt)
        have hxm : x.p ∈ P.kids := by rw [HPK.out]; exact List.mem_map_of_mem (List.mem_of_getElem? hx)
        have hxw := HKW.out _ hxm
        have hbig : ((m.kids.take (k + 1)).map fun y => y.p.size).sum + 1 ≤ 600 := by
          have h1 : ((m.kids.take (k + 1)).map fun y => y.p.size).sum ≤ (m.kids.map fun y => y.p.size).sum := by
            conv => rhs; rw [← List.take_append_drop (k + 1) m.kids, List.map_append, List.sum_append]
            omega
          have h2 : (P.kids.map Pl.size).sum = (m.kids.map fun y => y.p.size).sum := by rw [HPK.out, List.map_map]; rfl
          have h3 := HPE.out
          have h4 := HSZ0.out
          omega
        have htk := take_size HPK.out hx
        rw [htk] at hbig
        obtain ⟨xs, hxs⟩ : ∃ xs, xs = x.p.size := ⟨_, rfl⟩
        have hsx : s + xs ≤ 600 := by rw [HSS.out, hxs]; omega
        have HTK : Hid (s + xs = ((m.kids.take (k + 1)).map fun y => y.p.size).sum + 1) := Lib.hid (by rw [htk, HSS.out, hxs]; omega)
        obtain ⟨PX, hPX⟩ : ∃ PX, PX = printS (pTree x.p) := ⟨_, rfl⟩
        have hpx1 : 1 ≤ PX.length := by rw [hPX]; exact hxw.ne
        have hpe : List.isEmpty PX = false := by cases PX with | nil => simp at hpx1 | cons => rfl
        have HXP := Lib.hid (fun w2 (hE : Ev wr w2) => print_at x.p hxw PX hPX x w2 (HTAB.out.ev ((E7.out.trans HER.out).trans hE)) rfl (((HMQ7.out.kid x (List.mem_of_getElem? hx)).ev HER.out).ev hE))
        have HXS := Lib.hid (fun w2 (hE : Ev wr w2) => size_at x.p xs hxs.symm (by omega) x w2 rfl (((HMQ7.out.kid x (List.mem_of_getElem? hx)).ev HER.out).ev hE))
        obtain ⟨b, off, hbA, hb, _⟩ := (HKS.out.ev HER.out).rd (by rw [← HNK.out]; omega)
        have hps := HKS.out.ev HER.out
        rw [hbA] at hps b7
        have HC8 := Lib.hid (fun w2 (hE : Ev wr w2) => Ps.cell (hps.ev hE) hx)
        have HB7 : Hid (∀ w2, Ev wr w2 → w2.cell? ⟨w1.heap.size, 7, none⟩ = some (.slice (some ⟨b, off, none⟩) nk m.cap)) := Lib.hid fun w2 hE => by rw [← hbA]; exact HBX.out _ (HER.out.trans hE)
        unfold Sle.v PM.kv at HC8
        obtain ⟨c0, c1, c2, c3, c4, c5, c6, c7⟩ := HC8.out _ (Ev.refl _)
        have i1 : (0 : Int) ≤ (k : Int) := by omega
        have i2 : (k : Int) < (nk : Int) := by omega
        clear hx hxm hxw hbig htk hxs hPX hps hbA
        go_wp2_with (first
          | ((with_reducible refine (HXS.out _ (Ev.refl _)).mono ?_); rintro r w8 ⟨rfl, hE8⟩; have E8 := Lib.hid hE8; clear hE8 c0 c1 c2 c3 c4 c5 c6 c7 b7; obtain ⟨c0, c1, c2, c3, c4, c5, c6, c7⟩ := HC8.out _ E8.out; have b7 := HB7.out _ E8.out)
          | ((with_reducible refine (HXP.out _ E8.out).mono ?_); rintro r w9 ⟨rfl, hE9⟩; have E9 := Lib.hid (E8.out.trans hE9); clear hE9))
        go_roundw
        case rel => exact ⟨s + xs, k + 1, by go_num, by go_num, by omega, hsx, HTK, Lib.hid (HER.out.trans E9.out)⟩
        case measure => simp [intOf]; omega
      · obtain rfl : k = nk := by omega
        obtain rfl : s = sz := by
          have h1 := HSS.out
          rw [HNK.out, List.take_length] at h1
          have h2 : (P.kids.map Pl.size).sum = (m.kids.map fun y => y.p.size).sum := by rw [HPK.out, List.map_map]; rfl
          have h3 := HPE.out
          have h4 := HSZ0.out
          omega
        clear HSS
        go_upto_region 20 with (first
          | ((with_reducible refine (HR3.out _ (E7.out.trans HER.out)).mono ?_); rintro r w8 ⟨u, rfl, hup, huq, hE8⟩; simp only []; obtain ⟨w9, hw9, hE9, hB9, _⟩ := bx_pl w8 u; have E9 := Lib.hid (((E7.out.trans HER.out).trans hE8).trans hE9); have HUP := Lib.hid hup; have HUQ := Lib.hid ((huq.ev hE9).low (Nat.zero_le _)); have BU := hB9; have BM := (HBM7.out.ev HER.out).ev (hE8.trans hE9); have HMQ9 := Lib.hid ((HMQ7.out.ev HER.out).ev (hE8.trans hE9)); clear hup huq hE8 hE9 hB9 b7))
        generalize w1.heap.size = gm at *
        generalize w8.heap.size = gu at *
        clear hw2 hw5 hw9
        by_cases hrw : RW3 = 0
        · subst hrw
          have hwp : RP3 = wPlan 0 P := by
            rcases HCASE.out with h | h | h
            · exact (Prod.mk.inj h).1
            · cases h
            · cases h
          have HUS := Lib.hid (fun w2 (hE : Ev w9 w2) => size_at (wPlan 0 P) (s + 1) (by rw [wPlan_size (by omega), ← HSZ0.out]; rfl) (by omega) u w2 (HUP.out.trans hwp) (HUQ.out.ev hE))
          have HUT := Lib.hid (fun w2 (hE : Ev w9 w2) => tabs_at (wPlan 0 P) (by rw [wPlan_size (by omega), ← HSZ0.out]; simp; omega) u w2 (HUP.out.trans hwp) (HUQ.out.ev hE))
          have HMT := Lib.hid (fun w2 (hE : Ev w9 w2) => tabs_at P (by rw [← HSZ0.out]; omega) m w2 HMP.out (HMQ9.out.ev hE))
          have HTT := Lib.hid (fun (a b : Value) w2 (ha : TabF (wPlan 0 P) a w2) (hb : TabF P b w2) => tabs_same (fun x => wPlan_tabs (k := 0) (by omega) P x) ha hb)
          refine wp_region_slots hmix [fun v _ => v = .int .i64 0, fun v _ => v = .bool true, fun v _ => v = .bool true, fun v _ => v = pv u, fun v _ => v = .int .i64 ((s : Int) + 1), fun v _ => v = .int .i64 (s : Int), fun v _ => v = .int .i64 ((s : Int) + 1), fun v _ => v = .bool false, fun v _ => v = .bool false, fun v _ => v = pv u, TabF (wPlan 0 P), fun v _ => v = pv m, TabF P, fun v _ => v = .bool true, fun v _ => v = .bool false, fun v _ => v = .bool false, fun v _ => v = .bool false]
            113 rfl (by kernel_rfl) ⟨mono_eq _, mono_eq _, mono_eq _, mono_eq _, mono_eq _, mono_eq _, mono_eq _, mono_eq _, mono_eq _, mono_eq _, TabF.mono _, mono_eq _, TabF.mono _, mono_eq _, mono_eq _, mono_eq _, mono_eq _, trivial⟩ ?_ ?_
          · refine ops_cons 0 ?_ (ops_cons 1 ?_ (ops_cons 2 ?_ (ops_cons 3 ?_ (ops_cons 4 ?_ (ops_cons 5 ?_ (ops_cons 6 ?_ (ops_cons 7 ?_ (ops_cons 8 ?_ (ops_cons 9 ?_ (ops_cons 10 ?_ (ops_cons 11 ?_ (ops_cons 12 ?_ (ops_cons 13 ?_ (ops_cons 14 ?_ (ops_cons 15 ?_ (ops_cons 16 ?_ (ops_nil 17)))))))))))))))))
            · refine op_value fun a wq c => ⟨(wanted_plain rfl), _, run_move _ rfl wq, (c.was 13 (by kernel_rfl) rfl)⟩
            · refine op_value fun a wq c => ⟨(wanted_plain rfl), .bool true, ?_, rfl⟩
              have e89 : a.eval (.tmp 89) = .int .i64 0 := (c.new 0 89 (by kernel_rfl) (by kernel_rfl))
              have kc0 : a.eval (.const (.int .i64 0)) = .int .i64 0 := rfl
              generalize a.eval = ρ at e89 kc0 ⊢
              simp [execOp, e89, kc0, go_sem]
            · refine op_value fun a wq c => ⟨(wanted_plain rfl), _, run_move _ rfl wq, (c.new 1 90 (by kernel_rfl) (by kernel_rfl))⟩
            · refine op_value fun a wq c => ⟨(wanted_yes rfl (by kernel_rfl) (c.new 2 91 (by kernel_rfl) (by kernel_rfl))), _, run_load_box2 rfl ((c.was 12 (by kernel_rfl) rfl) : a.eval (.tmp 12) = .pointer (some ⟨gu, 0, none⟩)) (BU.ev c.ev) Tryz.underlying27 rfl Tryz.sizePlan, rfl⟩
            · refine op_call fun a wq c => ⟨(wanted_yes rfl (by kernel_rfl) (c.new 2 91 (by kernel_rfl) (by kernel_rfl))), 12, #[pv u], ?_, ?_⟩
              · rw [run_call 12 _ _ rfl (by kernel_rfl)]
                have e92 : a.eval (.tmp 92) = pv u := (c.new 3 92 (by kernel_rfl) (by kernel_rfl))
                simp [e92]
              · refine (HUS.out wq c.ev).mono ?_
                rintro e w2 ⟨rfl, hE⟩
                exact ⟨_, rfl, hE, by rw [Int.natCast_add]; rfl⟩
            · refine op_value fun a wq c => ⟨(wanted_yes rfl (by kernel_rfl) (c.new 2 91 (by kernel_rfl) (by kernel_rfl))), _, run_move _ rfl wq, (c.was 10 (by kernel_rfl) rfl)⟩
            · refine op_value fun a wq c => ⟨(wanted_yes rfl (by kernel_rfl) (c.new 2 91 (by kernel_rfl) (by kernel_rfl))), _, run_add_i64 rfl (c.new 5 94 (by kernel_rfl) (by kernel_rfl)) (evc a _) (by omega) (by omega) wq, rfl⟩
            · refine op_value fun a wq c => ⟨(wanted_yes rfl (by kernel_rfl) (c.new 2 91 (by kernel_rfl) (by kernel_rfl))), .bool false, ?_, rfl⟩
              have e93 : a.eval (.tmp 93) = .int .i64 ((s : Int) + 1) := (c.new 4 93 (by kernel_rfl) (by kernel_rfl))
              have e95 : a.eval (.tmp 95) = .int .i64 ((s : Int) + 1) := (c.new 6 95 (by kernel_rfl) (by kernel_rfl))
              generalize a.eval = ρ at e93 e95 ⊢
              simp [execOp, e93, e95, go_sem]
            · refine op_value fun a wq c => ⟨(wanted_yes rfl (by kernel_rfl) (c.new 2 91 (by kernel_rfl) (by kernel_rfl))), _, run_move _ rfl wq, (c.new 7 96 (by kernel_rfl) (by kernel_rfl))⟩
            · refine op_value fun a wq c => ⟨(wanted_yes rfl (by kernel_rfl) (c.new 8 97 (by kernel_rfl) (by kernel_rfl))), _, run_load_box2 rfl ((c.was 12 (by kernel_rfl) rfl) : a.eval (.tmp 12) = .pointer (some ⟨gu, 0, none⟩)) (BU.ev c.ev) Tryz.underlying27 rfl Tryz.sizePlan, rfl⟩
            · refine op_call fun a wq c => ⟨(wanted_yes rfl (by kernel_rfl) (c.new 8 97 (by kernel_rfl) (by kernel_rfl))), 14, #[pv u], ?_, ?_⟩
              · rw [run_call 14 _ _ rfl (by kernel_rfl)]
                have e98 : a.eval (.tmp 98) = pv u := (c.new 9 98 (by kernel_rfl) (by kernel_rfl))
                simp [e98]
              · refine (HUT.out wq c.ev).mono ?_
                rintro e w2 ⟨v_, rfl, hE, hT_⟩
                exact ⟨_, rfl, hE, hT_⟩
            · refine op_value fun a wq c => ⟨(wanted_yes rfl (by kernel_rfl) (c.new 8 97 (by kernel_rfl) (by kernel_rfl))), _, run_load_box2 rfl ((c.was 3 (by kernel_rfl) rfl) : a.eval (.tmp 3) = .pointer (some ⟨gm, 0, none⟩)) (BM.ev c.ev) Tryz.underlying27 rfl Tryz.sizePlan, rfl⟩
            · refine op_call fun a wq c => ⟨(wanted_yes rfl (by kernel_rfl) (c.new 8 97 (by kernel_rfl) (by kernel_rfl))), 14, #[pv m], ?_, ?_⟩
              · rw [run_call 14 _ _ rfl (by kernel_rfl)]
                have e100 : a.eval (.tmp 100) = pv m := (c.new 11 100 (by kernel_rfl) (by kernel_rfl))
                simp [e100]
              · refine (HMT.out wq c.ev).mono ?_
                rintro e w2 ⟨v_, rfl, hE, hT_⟩
                exact ⟨_, rfl, hE, hT_⟩
            · refine op_call fun a wq c => ?_
              have h1_ := (c.got 10 99 (by kernel_rfl) (by kernel_rfl) rfl : TabF (wPlan 0 P) _ _)
              have h2_ := (c.got 12 101 (by kernel_rfl) (by kernel_rfl) rfl : TabF P _ _)
              refine ⟨(wanted_yes rfl (by kernel_rfl) (c.new 8 97 (by kernel_rfl) (by kernel_rfl))), 13, #[a.eval (.tmp 99), a.eval (.tmp 101)], ?_, ?_⟩
              · rw [run_call 13 _ _ rfl (by kernel_rfl)]
                simp
              · refine (HTT.out _ _ wq h1_ h2_).mono ?_
                rintro e w2 ⟨rfl, hE⟩
                exact ⟨_, rfl, hE, rfl⟩
            · refine op_value fun a wq c => ⟨(wanted_yes rfl (by kernel_rfl) (c.new 8 97 (by kernel_rfl) (by kernel_rfl))), .bool false, ?_, rfl⟩
              have e102 : a.eval (.tmp 102) = .bool true := (c.new 13 102 (by kernel_rfl) (by kernel_rfl))
              generalize a.eval = ρ at e102 ⊢
              simp [execOp, e102, go_sem]
            · refine op_value fun a wq c => ⟨(wanted_yes rfl (by kernel_rfl) (c.new 2 91 (by kernel_rfl) (by kernel_rfl))), _, run_pick_false rfl (c.new 8 97 (by kernel_rfl) (by kernel_rfl)) wq, (c.new 14 103 (by kernel_rfl) (by kernel_rfl))⟩
            · refine op_value fun a wq c => ⟨(wanted_plain rfl), _, run_pick_true rfl (c.new 2 91 (by kernel_rfl) (by kernel_rfl)) wq, (c.new 15 104 (by kernel_rfl) (by kernel_rfl))⟩
          intro sl wv hEr hold hnew
          have f0 : sl 0 = .string ⟨L.toArray⟩ := hold 0 (by kernel_rfl)
          have f1 : sl 1 = undef := hold 1 (by kernel_rfl)
          have f2 : sl 2 = u2 := hold 2 (by kernel_rfl)
          have f3 : sl 3 = .pointer (some ⟨gm, 0, none⟩) := hold 3 (by kernel_rfl)
          have f4 : sl 4 = .int .i64 0 := hold 4 (by kernel_rfl)
          have f5 : sl 5 = .int .i64 (Rx : Int) := hold 5 (by kernel_rfl)
          have f6 : sl 6 = .string ⟨PS.toArray⟩ := hold 6 (by kernel_rfl)
          have f7 : sl 7 = .pointer (some ⟨w4.heap.size, 0, none⟩) := hold 7 (by kernel_rfl)
          have f8 : sl 8 = .int .i64 0 := hold 8 (by kernel_rfl)
          have f9 : sl 9 = .int .i64 0 := hold 9 (by kernel_rfl)
          have f10 : sl 10 = .int .i64 (s : Int) := hold 10 (by kernel_rfl)
          have f11 : sl 11 = .int .i64 (k : Int) := hold 11 (by kernel_rfl)
          have f12 : sl 12 = .pointer (some ⟨gu, 0, none⟩) := hold 12 (by kernel_rfl)
          have f13 : sl 13 = .int .i64 0 := hold 13 (by kernel_rfl)
          have f14 : sl 14 = .int .i64 (RX3 : Int) := hold 14 (by kernel_rfl)
          have f15 : sl 15 = u15 := hold 15 (by kernel_rfl)
          have f16 : sl 16 = u16 := hold 16 (by kernel_rfl)
          have f17 : sl 17 = u17 := hold 17 (by kernel_rfl)
          have f18 : sl 18 = u18 := hold 18 (by kernel_rfl)
          have f19 : sl 19 = u19 := hold 19 (by kernel_rfl)
          have f20 : sl 20 = .tuple #[.agg #[.int .i64 m.kind, .string ⟨m.name.toArray⟩, .slice m.ex.A m.ex.l.length m.ex.cap, .slice m.co.A m.co.l.length m.co.cap, .slice m.lf.A m.lf.l.length m.lf.cap, .slice m.rt.A m.rt.l.length m.rt.cap, .slice m.ag.A m.ag.l.length m.ag.cap, .slice m.A m.kids.length m.cap], .int .i64 0, .int .i64 (Rx : Int)] := hold 20 (by kernel_rfl)
          have f21 : sl 21 = .string ⟨L.toArray⟩ := hold 21 (by kernel_rfl)
          have f22 : sl 22 = .tuple #[.agg #[.int .i64 m.kind, .string ⟨m.name.toArray⟩, .slice m.ex.A m.ex.l.length m.ex.cap, .slice m.co.A m.co.l.length m.co.cap, .slice m.lf.A m.lf.l.length m.lf.cap, .slice m.rt.A m.rt.l.length m.rt.cap, .slice m.ag.A m.ag.l.length m.ag.cap, .slice m.A m.kids.length m.cap], .int .i64 0, .int .i64 (Rx : Int)] := hold 22 (by kernel_rfl)
          have f23 : sl 23 = .agg #[.int .i64 m.kind, .string ⟨m.name.toArray⟩, .slice m.ex.A m.ex.l.length m.ex.cap, .slice m.co.A m.co.l.length m.co.cap, .slice m.lf.A m.lf.l.length m.lf.cap, .slice m.rt.A m.rt.l.length m.rt.cap, .slice m.ag.A m.ag.l.length m.ag.cap, .slice m.A m.kids.length m.cap] := hold 23 (by kernel_rfl)
          have f24 : sl 24 = .int .i64 0 := hold 24 (by kernel_rfl)
          have f25 : sl 25 = .int .i64 (Rx : Int) := hold 25 (by kernel_rfl)
          have f26 : sl 26 = .int .i64 0 := hold 26 (by kernel_rfl)
          have f27 : sl 27 = .bool false := hold 27 (by kernel_rfl)
          have f28 : sl 28 = u28 := hold 28 (by kernel_rfl)
          have f29 : sl 29 = u29 := hold 29 (by kernel_rfl)
          have f30 : sl 30 = u30 := hold 30 (by kernel_rfl)
          have f31 : sl 31 = u31 := hold 31 (by kernel_rfl)
          have f32 : sl 32 = u32 := hold 32 (by kernel_rfl)
          have f33 : sl 33 = u33 := hold 33 (by kernel_rfl)
          have f34 : sl 34 = .agg #[.int .i64 m.kind, .string ⟨m.name.toArray⟩, .slice m.ex.A m.ex.l.length m.ex.cap, .slice m.co.A m.co.l.length m.co.cap, .slice m.lf.A m.lf.l.length m.lf.cap, .slice m.rt.A m.rt.l.length m.rt.cap, .slice m.ag.A m.ag.l.length m.ag.cap, .slice m.A m.kids.length m.cap] := hold 34 (by kernel_rfl)
          have f35 : sl 35 = .string ⟨PS.toArray⟩ := hold 35 (by kernel_rfl)
          have f36 : sl 36 = .string ⟨PS.toArray⟩ := hold 36 (by kernel_rfl)
          have f37 : sl 37 = .int .i64 ((List.length PS : Nat) : Int) := hold 37 (by kernel_rfl)
          have f38 : sl 38 = .bool false := hold 38 (by kernel_rfl)
          have f39 : sl 39 = .tuple #[.agg #[.int .i64 q.kind, .string ⟨q.name.toArray⟩, .slice q.ex.A q.ex.l.length q.ex.cap, .slice q.co.A q.co.l.length q.co.cap, .slice q.lf.A q.lf.l.length q.lf.cap, .slice q.rt.A q.rt.l.length q.rt.cap, .slice q.ag.A q.ag.l.length q.ag.cap, .slice q.A q.kids.length q.cap], .int .i64 0, .int .i64 0] := hold 39 (by kernel_rfl)
          have f40 : sl 40 = .string ⟨PS.toArray⟩ := hold 40 (by kernel_rfl)
          have f41 : sl 41 = .tuple #[.agg #[.int .i64 q.kind, .string ⟨q.name.toArray⟩, .slice q.ex.A q.ex.l.length q.ex.cap, .slice q.co.A q.co.l.length q.co.cap, .slice q.lf.A q.lf.l.length q.lf.cap, .slice q.rt.A q.rt.l.length q.rt.cap, .slice q.ag.A q.ag.l.length q.ag.cap, .slice q.A q.kids.length q.cap], .int .i64 0, .int .i64 0] := hold 41 (by kernel_rfl)
          have f42 : sl 42 = .agg #[.int .i64 q.kind, .string ⟨q.name.toArray⟩, .slice q.ex.A q.ex.l.length q.ex.cap, .slice q.co.A q.co.l.length q.co.cap, .slice q.lf.A q.lf.l.length q.lf.cap, .slice q.rt.A q.rt.l.length q.rt.cap, .slice q.ag.A q.ag.l.length q.ag.cap, .slice q.A q.kids.length q.cap] := hold 42 (by kernel_rfl)
          have f43 : sl 43 = .int .i64 0 := hold 43 (by kernel_rfl)
          have f44 : sl 44 = .int .i64 0 := hold 44 (by kernel_rfl)
          have f45 : sl 45 = .int .i64 0 := hold 45 (by kernel_rfl)
          have f46 : sl 46 = .bool false := hold 46 (by kernel_rfl)
          have f47 : sl 47 = .bool false := hold 47 (by kernel_rfl)
          have f48 : sl 48 = .agg #[.int .i64 m.kind, .string ⟨m.name.toArray⟩, .slice m.ex.A m.ex.l.length m.ex.cap, .slice m.co.A m.co.l.length m.co.cap, .slice m.lf.A m.lf.l.length m.lf.cap, .slice m.rt.A m.rt.l.length m.rt.cap, .slice m.ag.A m.ag.l.length m.ag.cap, .slice m.A m.kids.length m.cap] := hold 48 (by kernel_rfl)
          have f49 : sl 49 = .agg #[.int .i64 q.kind, .string ⟨q.name.toArray⟩, .slice q.ex.A q.ex.l.length q.ex.cap, .slice q.co.A q.co.l.length q.co.cap, .slice q.lf.A q.lf.l.length q.lf.cap, .slice q.rt.A q.rt.l.length q.rt.cap, .slice q.ag.A q.ag.l.length q.ag.cap, .slice q.A q.kids.length q.cap] := hold 49 (by kernel_rfl)
          have f50 : sl 50 = .bool true := hold 50 (by kernel_rfl)
          have f51 : sl 51 = .bool false := hold 51 (by kernel_rfl)
          have f52 : sl 52 = .bool false := hold 52 (by kernel_rfl)
          have f53 : sl 53 = .bool false := hold 53 (by kernel_rfl)
          have f54 : sl 54 = .agg #[.int .i64 q.kind, .string ⟨q.name.toArray⟩, .slice q.ex.A q.ex.l.length q.ex.cap, .slice q.co.A q.co.l.length q.co.cap, .slice q.lf.A q.lf.l.length q.lf.cap, .slice q.rt.A q.rt.l.length q.rt.cap, .slice q.ag.A q.ag.l.length q.ag.cap, .slice q.A q.kids.length q.cap] := hold 54 (by kernel_rfl)
          have f55 : sl 55 = .string ⟨PS.toArray⟩ := hold 55 (by kernel_rfl)
          have f56 : sl 56 = .string ⟨PS.toArray⟩ := hold 56 (by kernel_rfl)
          have f57 : sl 57 = .bool false := hold 57 (by kernel_rfl)
          have f58 : sl 58 = .bool false := hold 58 (by kernel_rfl)
          have f59 : sl 59 = .int .i64 (k : Int) := hold 59 (by kernel_rfl)
          have f60 : sl 60 = .pointer (some ⟨gm, 7, none⟩) := hold 60 (by kernel_rfl)
          have f61 : sl 61 = .slice m.A k m.cap := hold 61 (by kernel_rfl)
          have f62 : sl 62 = .int .i64 (k : Int) := hold 62 (by kernel_rfl)
          have f63 : sl 63 = .bool false := hold 63 (by kernel_rfl)
          have f64 : sl 64 = u64 := hold 64 (by kernel_rfl)
          have f65 : sl 65 = u65 := hold 65 (by kernel_rfl)
          have f66 : sl 66 = u66 := hold 66 (by kernel_rfl)
          have f67 : sl 67 = u67 := hold 67 (by kernel_rfl)
          have f68 : sl 68 = u68 := hold 68 (by kernel_rfl)
          have f69 : sl 69 = u69 := hold 69 (by kernel_rfl)
          have f70 : sl 70 = u70 := hold 70 (by kernel_rfl)
          have f71 : sl 71 = u71 := hold 71 (by kernel_rfl)
          have f72 : sl 72 = u72 := hold 72 (by kernel_rfl)
          have f73 : sl 73 = u73 := hold 73 (by kernel_rfl)
          have f74 : sl 74 = u74 := hold 74 (by kernel_rfl)
          have f75 : sl 75 = u75 := hold 75 (by kernel_rfl)
          have f76 : sl 76 = u76 := hold 76 (by kernel_rfl)
          have f77 : sl 77 = u77 := hold 77 (by kernel_rfl)
          have f78 : sl 78 = u78 := hold 78 (by kernel_rfl)
          have f79 : sl 79 = u79 := hold 79 (by kernel_rfl)
          have f80 : sl 80 = u80 := hold 80 (by kernel_rfl)
          have f81 : sl 81 = .tuple #[.agg #[.int .i64 u.kind, .string ⟨u.name.toArray⟩, .slice u.ex.A u.ex.l.length u.ex.cap, .slice u.co.A u.co.l.length u.co.cap, .slice u.lf.A u.lf.l.length u.lf.cap, .slice u.rt.A u.rt.l.length u.rt.cap, .slice u.ag.A u.ag.l.length u.ag.cap, .slice u.A u.kids.length u.cap], .int .i64 0, .int .i64 (RX3 : Int)] := hold 81 (by kernel_rfl)
          have f82 : sl 82 = .string ⟨PS.toArray⟩ := hold 82 (by kernel_rfl)
          have f83 : sl 83 = .string (⟨#[40, 100, 105, 115, 116, 105, 110, 99, 116, 32]⟩ ++ ⟨PS.toArray⟩) := hold 83 (by kernel_rfl)
          have f84 : sl 84 = .string ⟨XS.toArray⟩ := hold 84 (by kernel_rfl)
          have f85 : sl 85 = .tuple #[.agg #[.int .i64 u.kind, .string ⟨u.name.toArray⟩, .slice u.ex.A u.ex.l.length u.ex.cap, .slice u.co.A u.co.l.length u.co.cap, .slice u.lf.A u.lf.l.length u.lf.cap, .slice u.rt.A u.rt.l.length u.rt.cap, .slice u.ag.A u.ag.l.length u.ag.cap, .slice u.A u.kids.length u.cap], .int .i64 0, .int .i64 (RX3 : Int)] := hold 85 (by kernel_rfl)
          have f86 : sl 86 = .agg #[.int .i64 u.kind, .string ⟨u.name.toArray⟩, .slice u.ex.A u.ex.l.length u.ex.cap, .slice u.co.A u.co.l.length u.co.cap, .slice u.lf.A u.lf.l.length u.lf.cap, .slice u.rt.A u.rt.l.length u.rt.cap, .slice u.ag.A u.ag.l.length u.ag.cap, .slice u.A u.kids.length u.cap] := hold 86 (by kernel_rfl)
          have f87 : sl 87 = .int .i64 0 := hold 87 (by kernel_rfl)
          have f88 : sl 88 = .int .i64 (RX3 : Int) := hold 88 (by kernel_rfl)
          have f106 : sl 106 = u106 := hold 106 (by kernel_rfl)
          have f107 : sl 107 = u107 := hold 107 (by kernel_rfl)
          have f108 : sl 108 = u108 := hold 108 (by kernel_rfl)
          have f109 : sl 109 = u109 := hold 109 (by kernel_rfl)
          have f110 : sl 110 = u110 := hold 110 (by kernel_rfl)
          have f111 : sl 111 = u111 := hold 111 (by kernel_rfl)
          have f112 : sl 112 = u112 := hold 112 (by kernel_rfl)
          have f89 : sl 89 = .int .i64 0 := hnew 0 89 (by kernel_rfl)
          have f90 : sl 90 = .bool true := hnew 1 90 (by kernel_rfl)
          have f91 : sl 91 = .bool true := hnew 2 91 (by kernel_rfl)
          have f92 : sl 92 = pv u := hnew 3 92 (by kernel_rfl)
          have f93 : sl 93 = .int .i64 ((s : Int) + 1) := hnew 4 93 (by kernel_rfl)
          have f94 : sl 94 = .int .i64 (s : Int) := hnew 5 94 (by kernel_rfl)
          have f95 : sl 95 = .int .i64 ((s : Int) + 1) := hnew 6 95 (by kernel_rfl)
          have f96 : sl 96 = .bool false := hnew 7 96 (by kernel_rfl)
          have f97 : sl 97 = .bool false := hnew 8 97 (by kernel_rfl)
          have f98 : sl 98 = pv u := hnew 9 98 (by kernel_rfl)
          have f100 : sl 100 = pv m := hnew 11 100 (by kernel_rfl)
          have f102 : sl 102 = .bool true := hnew 13 102 (by kernel_rfl)
          have f103 : sl 103 = .bool false := hnew 14 103 (by kernel_rfl)
          have f104 : sl 104 = .bool false := hnew 15 104 (by kernel_rfl)
          have f105 : sl 105 = .bool false := hnew 16 105 (by kernel_rfl)
          change Exit.then _ _ .normal ⟨#[sl 0, sl 1, sl 2, sl 3, sl 4, sl 5, sl 6, sl 7, sl 8, sl 9, sl 10, sl 11, sl 12, sl 13, sl 14, sl 15, sl 16, sl 17, sl 18, sl 19, sl 20, sl 21, sl 22, sl 23, sl 24, sl 25, sl 26, sl 27, sl 28, sl 29, sl 30, sl 31, sl 32, sl 33, sl 34, sl 35, sl 36, sl 37, sl 38, sl 39, sl 40, sl 41, sl 42, sl 43, sl 44, sl 45, sl 46, sl 47, sl 48, sl 49, sl 50, sl 51, sl 52, sl 53, sl 54, sl 55, sl 56, sl 57, sl 58, sl 59, sl 60, sl 61, sl 62, sl 63, sl 64, sl 65, sl 66, sl 67, sl 68, sl 69, sl 70, sl 71, sl 72, sl 73, sl 74, sl 75, sl 76, sl 77, sl 78, sl 79, sl 80, sl 81, sl 82, sl 83, sl 84, sl 85, sl 86, sl 87, sl 88, sl 89, sl 90, sl 91, sl 92, sl 93, sl 94, sl 95, sl 96, sl 97, sl 98, sl 99, sl 100, sl 101, sl 102, sl 103, sl 104, sl 105, sl 106, sl 107, sl 108, sl 109, sl 110, sl 111, sl 112], _⟩ _
          simp only [f0, f1, f2, f3, f4, f5, f6, f7, f8, f9, f10, f11, f12, f13, f14, f15, f16, f17, f18, f19, f20, f21, f22, f23, f24, f25, f26, f27, f28, f29, f30, f31, f32, f33, f34, f35, f36, f37, f38, f39, f40, f41, f42, f43, f44, f45, f46, f47, f48, f49, f50, f51, f52, f53, f54, f55, f56, f57, f58, f59, f60, f61, f62, f63, f64, f65, f66, f67, f68, f69, f70, f71, f72, f73, f74, f75, f76, f77, f78, f79, f80, f81, f82, f83, f84, f85, f86, f87, f88, f106, f107, f108, f109, f110, f111, f112, f89, f90, f91, f92, f93, f94, f95, f96, f97, f98, f100, f102, f103, f104, f105]
          clear hold hnew
          obtain ⟨⟨p0, p1, p2, p3, p4, p5, p6, p7⟩, _⟩ := (BM.ev hEr).eight
          go_wp2_with (first
            | ((with_reducible refine (HSZ.out m _ HMP.out (HMQ9.out.ev hEr)).mono ?_); rintro r wa ⟨rfl, hEa⟩; have Ea := Lib.hid ((E9.out.trans hEr).trans hEa); clear hEa)
            | ((with_reducible refine (HKn.out _ Ea.out).mono ?_); rintro r wb ⟨rfl, hEb⟩))
          go_ret
          exact ⟨rfl, Ea.out.trans hEb⟩
        · have hrb : (RW3 == 0) = false := beq_eq_false_iff_ne.2 hrw
          go_quiet (fail)
          generalize hwA : World.drewN w9 _ = wA
          have hEr : Ev w9 wA := by rw [← hwA]; exact Ev.drewN _ _
          clear hwA
          obtain ⟨⟨p0, p1, p2, p3, p4, p5, p6, p7⟩, _⟩ := (BM.ev hEr).eight
          go_wp2_with (first
            | ((with_reducible refine (HSZ.out m _ HMP.out (HMQ9.out.ev hEr)).mono ?_); rintro r wa ⟨rfl, hEa⟩; have Ea := Lib.hid ((E9.out.trans hEr).trans hEa); clear hEa)
            | ((with_reducible refine (HKn.out _ Ea.out).mono ?_); rintro r wb ⟨rfl, hEb⟩))
          go_ret
          exact ⟨rfl, Ea.out.trans hEb⟩
  · have hw' : (Rw != 0) = true := bne_iff_ne.2 hw
    have HP0 := Lib.hid (hbad hw)
    have HKP : Hid (∀ (m : PM) w1, m.p = pZero → Qx 0 [] w1 m → Calls Tryz.prog 9 #[.agg #[.int .i64 m.kind, .string ⟨m.name.toArray⟩, .slice m.ex.A m.ex.l.length m.ex.cap, .slice m.co.A m.co.l.length m.co.cap, .slice m.lf.A m.lf.l.length m.lf.cap, .slice m.rt.A m.rt.l.length m.rt.cap, .slice m.ag.A m.ag.l.length m.ag.cap, .slice m.A m.kids.length m.cap], .agg #[.int .i64 0, .string ⟨#[]⟩, .slice none 0 0, .slice none 0 0, .slice none 0 0, .slice none 0 0, .slice none 0 0, .slice none 0 0]] w1 fun e w' => e = .returned (.bool true) ∧ Ev w1 w') := Lib.hid fun m w1 hm h1 => keep_plan m pmZero 0 0 w1 h1 (Qx.zero 0 [] w1) (hm.trans pmZero_p.symm)
    clear hwr hbad
    go_wp2_with (first
      | ((with_reducible refine (HR.out _ HE0.out).mono ?_); rintro r w1 ⟨m, rfl, hmp, hmq, hE1⟩; simp only []; obtain ⟨w2, hw2, hE2, hB2, _⟩ := bx_pl w1 m; have E2 := Lib.hid (hE1.trans hE2); have HMP := Lib.hid (hmp.trans HP0.out); have HMQ := Lib.hid ((hmq.ev hE2).low (Nat.zero_le _)); obtain ⟨⟨p0, p1, p2, p3, p4, p5, p6, p7⟩, _⟩ := hB2.eight; clear hmp hmq hE1 hE2 hB2)
      | ((with_reducible refine (HKP.out m _ HMP.out HMQ.out).mono ?_); rintro r w3 ⟨rfl, hE3⟩; have E3 := Lib.hid (E2.out.trans hE3); clear hE3)
      | ((with_reducible refine (HKn.out _ E3.out).mono ?_); rintro r w4 ⟨rfl, hE4⟩))
    go_ret
    exact ⟨rfl, E3.out.trans hE4⟩
end Go.Proofs.YtojbahjebfcmgaaGreatDoor
