/-
  Texts that belong together: Package plan: the reader: a filter, a join, a group. Package plan: the reader: any plan.
-/
import Derived.Test.YtojbahjebfcmgaaGreatDoorZ33W
import Derived.Test.YtojbahjebfcmgaaGreatDoorZ0W
import Derived.Test.YtojbahjebfcmgaaGreatDoorZ27W
import Derived.Test.YtojbahjebfcmgaaGreatDoorZ29W
import Derived.Test.YtojbahjebfcmgaaGreatDoorZ30W
import Derived.Test.YtojbahjebfcmgaaGreatDoorZ31W
import Derived.Test.YtojbahjebfcmgaaGreatDoorZ32W
namespace Go.Proofs.YtojbahjebfcmgaaGreatDoor
open Go.RowKit
set_option linter.unusedVariables false

/-- A plan lies in the result's box. -/
def PmB (g4 base : Nat) (PT : Pl) (u : World) : Prop := ∃ m : PM, Bx 27 g4 #[.int .i64 m.kind, .string ⟨m.name.toArray⟩, .slice m.ex.A m.ex.l.length m.ex.cap, .slice m.co.A m.co.l.length m.co.cap, .slice m.lf.A m.lf.l.length m.lf.cap, .slice m.rt.A m.rt.l.length m.rt.cap, .slice m.ag.A m.ag.l.length m.ag.cap, .slice m.A m.kids.length m.cap] u ∧ m.p = PT ∧ Qx base [] u m
/-- Behind p calls: the reader's error, the result's box. -/
def StF (gr g4 base : Nat) (es : List Er) (PT : Pl) (p : Nat) (u : World) : Prop := Rb gr (es.getD p (0, 0)) u ∧ if p + 1 = es.length then PmB g4 base PT u else Bx 27 g4 #[.int .i64 0, .string ⟨#[]⟩, .slice none 0 0, .slice none 0 0, .slice none 0 0, .slice none 0 0, .slice none 0 0, .slice none 0 0] u
theorem StF.ev (gr g4 base : Nat) (es : List Er) (PT : Pl) : ∀ p u u', Ev u u' → StF gr g4 base es PT p u → StF gr g4 base es PT p u' := fun p u u' hE h => by
  refine ⟨h.1.ev hE, ?_⟩
  have h2 := h.2
  split at h2
  · rename_i hp
    rw [if_pos hp]
    obtain ⟨m, hB, hm, hQ⟩ := h2
    exact ⟨m, hB.ev hE, hm, hQ.ev hE⟩
  · rename_i hp
    rw [if_neg hp]
    exact h2.ev hE
theorem but_w {w w1 wq : World} {gr g4 : Nat} (hE : Ev w w1) (h : But [gr, g4] w1 wq) (h4 : w.heap.size ≤ g4) : But [gr] w wq := (But.of_ev hE).trans h fun y hy => by
  simp at hy
  rcases hy with rfl | rfl
  · exact .inl (by simp)
  · exact .inr h4
theorem but_r {w w1 : World} {gr g4 : Nat} (h : But [gr] w w1) : But [gr, g4] w w1 := h.wide fun y hy => .inl (by simp at hy; simp [hy])
theorem but_4 {w w1 : World} {gr g4 : Nat} (h : But [g4] w w1) : But [gr, g4] w w1 := h.wide fun y hy => .inl (by simp at hy; simp [hy])
theorem old_2 {gr g4 base : Nat} (h1 : gr < base) (h2 : g4 < base) : ∀ k ∈ [gr, g4], k < base := fun k hk => by
  simp at hk
  rcases hk with rfl | rfl <;> assumption
/-- A call of the reader's within the region: what it leaves. -/
theorem st_call {gr g4 base : Nat} {es : List Er} {PT : Pl} {p : Nat} {E E' : Er} {u u' : World} (h : StF gr g4 base es PT p u) (hr : RdOut gr E' u u') (hE' : es.getD (p + 1) (0, 0) = E') (hp : p + 2 < es.length) (h4 : g4 ≠ gr) : StF gr g4 base es PT (p + 1) u' := by
  refine ⟨by rw [hE']; exact hr.bx, ?_⟩
  have h2 := h.2
  rw [if_neg (by omega)] at h2 ⊢
  exact h2.but hr.but (by simp; exact h4)
theorem kids_ms {b0 gr : Nat} {w : World} {y : M} (h : Lies b0 [gr] w y) : Ms w y.A y.kids.length y.cap y.kids ∧ Rng b0 [gr] w y.A := by
  refine ⟨h.ms, ?_⟩
  cases h with
  | mk h1 h2 h3 => exact h2
theorem kids_len {y : M} (h : y.t.size ≤ 10000) : y.kids.length ≤ 100000 := by
  have h7 := T.size_eq y.t
  have h8 := sum_len y.t.kids
  rw [M.t_kids, List.length_map] at h8
  rw [M.t_kids] at h7
  omega
set_option maxRecDepth 100000 in
set_option maxHeartbeats 16000000 in
theorem rd_planFilter (m : M) (gr : Nat) (e : Er) (b0 : Nat) (w : World) (hB : Rb gr e w) (hL : Lies b0 [gr] w m) (hfair : m.t.every fairB = true) (hsz : m.t.size ≤ 10000) (hf : pForm m.t = true) (x : M) (q : List M) (hq : m.kids = x :: q) (hs : x.s = bFilter)
    (ih : ∀ y ∈ q, ∀ w1 e1, But [gr] w w1 → Rb gr e1 w1 → Calls Tryz.prog 27 #[.pointer (some ⟨gr, 0, none⟩), .agg #[.int .i64 y.kind, .string ⟨y.s.toArray⟩, .int .i64 y.n, .slice y.A y.kids.length y.cap, .int .i64 (y.pos : Int)]] w1 (RdPl gr e1 y.t w1)) :
    Calls Tryz.prog 27 #[.pointer (some ⟨gr, 0, none⟩), .agg #[.int .i64 m.kind, .string ⟨m.s.toArray⟩, .int .i64 m.n, .slice m.A m.kids.length m.cap, .int .i64 (m.pos : Int)]] w (RdPl gr e m.t w) := by
  have hmix : Tryz.prog.follows .mixedOrders = true := by kernel_rfl
  obtain ⟨hpp, hpe, hfo, hm1, hx2, hq1⟩ := plan_m hq hf
  obtain ⟨b, off, k, c, hPA⟩ := pl_at hL hq hq1
  have hgr := hB.lt
  have hHF := fun w1 (hE : Ev w w1) => pl_hasForm m b0 w1 ((hL.ev hE).less fun k hk => by cases hk)
  rw [hf] at hHF
  have HQS := Lib.hid (fun y (hy : y ∈ q) => q_size hq hy hfair hsz)
  have hqn := q_len hq hsz
  have HKC := Lib.hid (fun w1 (hb : But [gr] w w1) => hPA.kid 0 x (by rw [hq]; rfl) w1 hb)
  have HKD := Lib.hid (fun i y (hy : q[i]? = some y) w1 (hb : But [gr] w w1) => hPA.kid (i + 1) y (by rw [hq]; simpa using hy) w1 hb)
  simp only [Nat.zero_mul, Nat.add_zero, hs, hx2] at HKC
  rw [hs] at hpp hpe hfo
  unfold RdPl
  obtain ⟨PT, hPT⟩ : ∃ PT, PT = pPlan m.t := ⟨_, rfl⟩
  obtain ⟨PE, hPE⟩ : ∃ PE, PE = pErr m.t := ⟨_, rfl⟩
  rw [← hPT] at hpp ⊢
  rw [← hPE] at hpe ⊢
  have hA := hPA.hA
  have hn := hPA.hn
  have hc := hPA.hc
  have hkc := hPA.hkc
  have hcm := hPA.hcm
  have hql := hPA.hql
  have HPA := Lib.hid hPA
  clear hPA hPT hPE hq hL hfair hsz hq1 hf hx2
  generalize hk_ : m.kids.length = kn at *
  generalize hA_ : m.A = mA at *
  generalize hc_ : m.cap = mc at *
  generalize hk1_ : m.kind = kd at *
  generalize hs_ : m.s = ms at *
  generalize hn_ : m.n = mn at *
  generalize hp_ : m.pos = mp at *
  clear hk_ hA_ hc_ hk1_ hs_ hn_ hp_
  subst hm1
  subst hA
  subst hn
  subst hc
  obtain ⟨w0, hw0, hE0, hX, hR, hs0⟩ := bx_twoP w (.int .i64 1) (.string ⟨ms.toArray⟩) (.int .i64 mn) (.slice (some ⟨b, off, none⟩) (k + 2) (c + 2)) (.int .i64 (mp : Int))
  have HHF := Lib.hid hHF
  have HX := Lib.hid hX
  have HR := Lib.hid hR
  have HE := Lib.hid hE0
  have HB := Lib.hid hB
  have HIH := Lib.hid ih
  have HS := Lib.hid hs
  have HQL := Lib.hid hql
  have hbgr := HPA.out.bgr
  unfold bFilter at *
  obtain ⟨⟨c0, c1, c2, c3, c4⟩, _⟩ := hX.five
  obtain ⟨d0, d1, d2, d3, d4⟩ := HKC.out _ (But.of_ev hE0)
  clear hX hR hE0 hB hHF ih hs
  have hk2 : q.length = 2 := by
    have h1 : ((q.map M.t).length == 2) = true := hfo
    rw [beq_iff_eq, List.length_map] at h1
    exact h1
  obtain rfl : k = 1 := by omega
  obtain ⟨y, z, rfl⟩ := two_ofP hk2
  obtain ⟨c1_, rfl⟩ : ∃ c1, c = c1 + 1 := ⟨c - 1, by omega⟩
  have HPP : Hid (PT = .mk 2 [] [(xRead y.t).1] [] [] [] [] [pPlan z.t]) := Lib.hid hpp
  have HPE : Hid (PE = firsts [exErr y.t, pErr z.t]) := Lib.hid hpe
  have hRE := fun e1 w1 hB1 hL1 => rd_expression gr e1 y b0 w1 hB1 hL1 (HQS.out y (by simp)).1 (by have := (HQS.out y (by simp)).2; omega)
  unfold ev_ M.kv at hRE
  have HRE := Lib.hid hRE
  have hPS := fun e1 w1 (hb : But [gr] w w1) (hB1 : Rb gr e1 w1) => rd_plans gr e1 [z] _ _ _ b0 w1 hB1 (Ms.rest (HPA.out.rest w1 hb)) (HPA.out.rng w1 hb _) (by omega) (fun v hv w2 e2 hb2 hB2 => HIH.out v (by simp at hv; subst hv; simp) w2 e2 (hb.then hb2) hB2)
  unfold Sle.v at hPS
  have HPS := Lib.hid hPS
  have hKY := HKD.out 0 y rfl
  simp only [Nat.zero_add, Nat.one_mul] at hKY
  have KY := Lib.hid hKY
  clear hpp hpe hfo hRE hPS hKY
  go_enter Tryz.func27, Tryz.ntmps27
  go_upto_region 11 with (first
    | ((with_reducible refine (HHF.out _ HE.out).mono ?_); rintro r w1 ⟨rfl, hE1⟩; have E1 := Lib.hid (HE.out.trans hE1); clear c0 c1 c2 c3 c4 d0 d1 d2 d3 d4; obtain ⟨⟨c0, c1, c2, c3, c4⟩, _⟩ := (HX.out.ev hE1).five; obtain ⟨d0, d1, d2, d3, d4⟩ := HKC.out _ (But.of_ev E1.out)))
  clear c0 c1 c2 c3 c4 d0 d1 d2 d3 d4
  have hw1 := E1.out.size
  have hsz1 := hE1.size
  have hg4 : w.heap.size + 1 ≠ gr := by omega
  refine wp_region_slotsC hmix (fun u => But [gr, w.heap.size + 1] w1 u) (But [gr, w.heap.size + 1]) [4, 9, 11] (StF gr (w.heap.size + 1) w1.heap.size [e, orE e (exErr y.t), orE (orE e (exErr y.t)) (firsts [pErr z.t]), orE (orE e (exErr y.t)) (firsts [pErr z.t])] (.mk 2 [] [(xRead y.t).1] [] [] [] [] [pPlan z.t])) [fun v _ => v = .pointer (some ⟨gr, 0, none⟩), fun v _ => v = .slice (some ⟨b, off + 5, none⟩) (2) (c1_ + 2), fun v _ => v = .pointer (some ⟨b, off + 5, none⟩), fun v _ => v = .agg #[.int .i64 y.kind, .string ⟨y.s.toArray⟩, .int .i64 y.n, .slice y.A y.kids.length y.cap, .int .i64 (y.pos : Int)], ExF w1.heap.size (xRead y.t).1, XsF w1.heap.size [(xRead y.t).1], fun v _ => v = .pointer (some ⟨gr, 0, none⟩), fun v _ => v = .slice (some ⟨b, off + 5, none⟩) (2) (c1_ + 2), fun v _ => v = .slice (some ⟨b, off + 10, none⟩) 1 (c1_ + 1), PsF w1.heap.size [pPlan z.t], PmF w1.heap.size (.mk 2 [] [(xRead y.t).1] [] [] [] [] [pPlan z.t]), fun _ _ => True]
    115 3 rfl (by kernel_rfl) ⟨mono_eq _, mono_eq _, mono_eq _, mono_eq _, ExF.mono _ _, XsF.mono _ _, mono_eq _, mono_eq _, mono_eq _, PsF.mono _ _, PmF.mono _ _, mono_true, trivial⟩ ⟨fun _ _ _ _ h => h, fun _ _ _ _ h => h, fun _ _ _ _ h => h, fun _ _ _ _ h => h, ExF.old (old_2 (by omega) (by omega)), XsF.old (old_2 (by omega) (by omega)), fun _ _ _ _ h => h, fun _ _ _ _ h => h, fun _ _ _ _ h => h, PsF.old (old_2 (by omega) (by omega)), PmF.old (old_2 (by omega) (by omega)), fun _ _ _ _ h => h, trivial⟩ (by kernel_rfl) (StF.ev _ _ _ _ _) (fun u u' hE h => h.then (But.of_ev hE)) (But.refl _ _) (⟨HB.out.ev E1.out, HR.out.ev hE1⟩) (by kernel_rfl) ?_ ?_ ?_
  · refine opc_cons 0 ?_ (opc_cons 1 ?_ (opc_cons 2 ?_ (opc_cons 3 ?_ (opc_turn 4 (by decide) (opc_cons 5 ?_ (opc_cons 6 ?_ (opc_cons 7 ?_ (opc_cons 8 ?_ (opc_turn 9 (by decide) (opc_cons 10 ?_ (opc_turn 11 (by decide) (opc_nil 12))))))))))))
    · refine opc_value fun a w c => ⟨(wanted_plain rfl), _, run_move _ rfl w, (c.was 0 (by kernel_rfl) rfl)⟩
    · refine opc_value fun a w c => ⟨(wanted_plain rfl), _, run_move _ rfl w, (c.was 5 (by kernel_rfl) rfl)⟩
    · refine opc_value fun a wq c => ⟨(wanted_plain rfl), .pointer (some ⟨b, off + 5, none⟩), ?_, rfl⟩
      have e_0 : a.eval (.tmp 56) = .slice (some ⟨b, off + 5, none⟩) (2) (c1_ + 2) := (c.new 1 56 (by kernel_rfl) (by kernel_rfl))
      have kc0 : a.eval (.const (.int .i64 0)) = .int .i64 0 := rfl
      generalize a.eval = ρ at e_0 kc0 ⊢
      simp [execOp, e_0, kc0, go_sem]
    · refine opc_value fun a wq c => ⟨(wanted_plain rfl), .agg #[.int .i64 y.kind, .string ⟨y.s.toArray⟩, .int .i64 y.n, .slice y.A y.kids.length y.cap, .int .i64 (y.pos : Int)], ?_, rfl⟩
      have e_0 : a.eval (.tmp 57) = .pointer (some ⟨b, off + 5, none⟩) := (c.new 2 57 (by kernel_rfl) (by kernel_rfl))
      obtain ⟨q0, q1, q2, q3, q4⟩ := KY.out wq (but_w E1.out c.inv (Nat.le_succ _))
      generalize a.eval = ρ at e_0 ⊢
      simp [execOp, e_0, q0, q1, q2, q3, q4, go_sem]
    · refine opc_makes fun a wq c => ?_
      obtain ⟨x_, ex_, hxt, hxl⟩ := (c.got 4 59 (by kernel_rfl) (by kernel_rfl) rfl : ExF _ _ _ _)
      refine ⟨(wanted_plain rfl), .slice (some ⟨wq.heap.size, 0, none⟩) 1 1, wq.alloc (.cells #[.int .i64 x_.kind, .string ⟨x_.s.toArray⟩, .int .i64 x_.n, .slice x_.A x_.kids.length x_.cap] 57), ?_, Ev.alloc _ _, c.inv.then (But.of_ev (Ev.alloc _ _)), ⟨⟨some ⟨wq.heap.size, 0, none⟩, 1, [x_]⟩, rfl, by simp [hxt], ⟨Sl.one (et := 57) encE wq x_ _ rfl, fun ad ea => by cases ea; exact ⟨c.inv.size, by simp, by simp⟩⟩, fun z hz => by simp at hz; subst hz; exact hxl.ev (Ev.alloc _ _)⟩⟩
      generalize a.eval = ρ at ex_ ⊢
      simp [execOp, ex_, go_sem]
    · refine opc_value fun a w c => ⟨(wanted_plain rfl), _, run_move _ rfl w, (c.was 0 (by kernel_rfl) rfl)⟩
    · refine opc_value fun a w c => ⟨(wanted_plain rfl), _, run_move _ rfl w, (c.was 5 (by kernel_rfl) rfl)⟩
    · refine opc_value fun a wq c => ⟨(wanted_plain rfl), .slice (some ⟨b, off + 10, none⟩) 1 (c1_ + 1), ?_, rfl⟩
      have e_0 : a.eval (.tmp 62) = .slice (some ⟨b, off + 5, none⟩) (2) (c1_ + 2) := (c.new 7 62 (by kernel_rfl) (by kernel_rfl))
      have kc1 : a.eval (.const (.int .i64 1)) = .int .i64 1 := rfl
      generalize a.eval = ρ at e_0 kc1 ⊢
      simp [execOp, e_0, kc1, go_sem]
    · refine opc_value fun a wq c => ?_
      obtain ⟨X_, eX_, hXl, hXs, hXx⟩ := (c.got 5 60 (by kernel_rfl) (by kernel_rfl) rfl : XsF _ _ _ _)
      obtain ⟨Y_, eY_, hYl, hYs, hYq⟩ := (c.got 9 64 (by kernel_rfl) (by kernel_rfl) rfl : PsF _ _ _ _)
      refine ⟨(wanted_plain rfl), _, ?_, ⟨.mk 2 [] X_ .nil .nil .nil .nil Y_.A Y_.cap Y_.l, rfl, by rw [PM.p_eq, ← hXl, ← hYl]; rfl, .mk hXs hXx (SleAt.nil ..) (SleAt.nil ..) (SleAt.nil ..) (SleAt.nil ..) hYs hYq⟩⟩
      have kc0 : a.eval (.const (.int .i64 2)) = .int .i64 2 := rfl
      generalize a.eval = ρ at eX_ eY_ kc0 ⊢
      simp [execOp, eX_, eY_, kc0, go_sem, PM.kind, PM.name, PM.ex, PM.co, PM.lf, PM.rt, PM.ag, PM.A, PM.cap, PM.kids, Sle.nil]
  · refine trn_cons 0 rfl ?_ (trn_cons 1 rfl ?_ (trn_cons 2 rfl ?_ (trn_nil 3)))
    · refine opt_call fun a wq c st => ⟨wanted_plain rfl, 54, #[.pointer (some ⟨gr, 0, none⟩), .agg #[.int .i64 y.kind, .string ⟨y.s.toArray⟩, .int .i64 y.n, .slice y.A y.kids.length y.cap, .int .i64 (y.pos : Int)]], ?_, ?_⟩
      · rw [run_call 54 _ _ rfl (by kernel_rfl)]
        have e_0 : a.eval (.tmp 55) = .pointer (some ⟨gr, 0, none⟩) := (c.new 0 55 (by kernel_rfl) (by kernel_rfl))
        have e_1 : a.eval (.tmp 58) = .agg #[.int .i64 y.kind, .string ⟨y.s.toArray⟩, .int .i64 y.n, .slice y.A y.kids.length y.cap, .int .i64 (y.pos : Int)] := (c.new 3 58 (by kernel_rfl) (by kernel_rfl))
        simp [e_0, e_1]
      · have hbw := but_w E1.out c.inv (Nat.le_succ _)
        have hsz := c.inv.size
        refine (HRE.out e wq st.1 (HPA.out.lies y (by simp) wq hbw)).mono ?_
        rintro r wp ⟨x_, rfl, hxt, hxl, hRO⟩
        exact ⟨_, rfl, but_r hRO.but, c.inv.then (but_r hRO.but), st_call (E := e) st hRO rfl (by simp) hg4, ⟨x_, rfl, hxt, hxl.low hsz⟩⟩
    · refine opt_call fun a wq c st => ⟨wanted_plain rfl, 55, #[.pointer (some ⟨gr, 0, none⟩), .slice (some ⟨b, off + 10, none⟩) 1 (c1_ + 1)], ?_, ?_⟩
      · rw [run_call 55 _ _ rfl (by kernel_rfl)]
        have e_0 : a.eval (.tmp 61) = .pointer (some ⟨gr, 0, none⟩) := (c.new 6 61 (by kernel_rfl) (by kernel_rfl))
        have e_1 : a.eval (.tmp 63) = .slice (some ⟨b, off + 10, none⟩) 1 (c1_ + 1) := (c.new 8 63 (by kernel_rfl) (by kernel_rfl))
        simp [e_0, e_1]
      · have hbw := but_w E1.out c.inv (Nat.le_succ _)
        have hsz := c.inv.size
        refine (HPS.out _ wq hbw st.1).mono ?_
        rintro r wp ⟨X_, rfl, hXl, hXs, hXq, hRO⟩
        exact ⟨_, rfl, but_r hRO.but, c.inv.then (but_r hRO.but), st_call (E := e) st hRO rfl (by simp) hg4, ⟨X_, rfl, hXl, hXs.low hsz, fun k_ hk_ => (hXq k_ hk_).low hsz⟩⟩
    · refine opt_store rfl fun a wq c st => ?_
      obtain ⟨m_, em_, hm_, hq_⟩ := (c.got 10 65 (by kernel_rfl) (by kernel_rfl) rfl : PmF _ _ _ _)
      have e4 : a.eval (.tmp 4) = .pointer (some ⟨w.heap.size + 1, 0, none⟩) := (c.was 4 (by kernel_rfl) rfl)
      have hbx : Bx 27 (w.heap.size + 1) #[.int .i64 0, .string ⟨#[]⟩, .slice none 0 0, .slice none 0 0, .slice none 0 0, .slice none 0 0, .slice none 0 0, .slice none 0 0] wq := st.2
      obtain ⟨⟨r0, r1, r2, r3, r4, r5, r6, r7⟩, s0, s1, s2, s3, s4, s5, s6, s7⟩ := hbx.eight
      refine ⟨wanted_plain rfl, set8 (w.heap.size + 1) (.int .i64 m_.kind) (.string ⟨m_.name.toArray⟩) (.slice m_.ex.A m_.ex.l.length m_.ex.cap) (.slice m_.co.A m_.co.l.length m_.co.cap) (.slice m_.lf.A m_.lf.l.length m_.lf.cap) (.slice m_.rt.A m_.rt.l.length m_.rt.cap) (.slice m_.ag.A m_.ag.l.length m_.ag.cap) (.slice m_.A m_.kids.length m_.cap) wq, ?_, but_4 (set8_but _ _ _ _ _ _ _ _ _ _), c.inv.then (but_4 (set8_but _ _ _ _ _ _ _ _ _ _)), ⟨st.1.but (set8_but _ _ _ _ _ _ _ _ _ _) (by simp; omega), ⟨m_, hbx.set8 _ _ _ _ _ _ _ _, hm_, qx_old hq_ (set8_but _ _ _ _ _ _ _ _ _ _) (fun y hy => by simp at hy; omega)⟩⟩, trivial⟩
      generalize a.eval = ρ at em_ e4 ⊢
      simp [execOp, em_, e4, go_sem, r0, r1, r2, r3, r4, r5, r6, r7, s0, s1, s2, s3, s4, s5, s6, s7, set8, set5, set4]
  intro sl w9 hI hold hnew hst
  have f0 : sl 0 = .pointer (some ⟨gr, 0, none⟩) := hold 0 (by kernel_rfl)
  have f4 : sl 4 = .pointer (some ⟨w.heap.size + 1, 0, none⟩) := hold 4 (by kernel_rfl)
  have f5 : sl 5 = .slice (some ⟨b, off + 5, none⟩) (2) (c1_ + 2) := hold 5 (by kernel_rfl)
  have f55 : sl 55 = .pointer (some ⟨gr, 0, none⟩) := hnew 0 55 (by kernel_rfl)
  have f56 : sl 56 = .slice (some ⟨b, off + 5, none⟩) (2) (c1_ + 2) := hnew 1 56 (by kernel_rfl)
  have f57 : sl 57 = .pointer (some ⟨b, off + 5, none⟩) := hnew 2 57 (by kernel_rfl)
  have f58 : sl 58 = .agg #[.int .i64 y.kind, .string ⟨y.s.toArray⟩, .int .i64 y.n, .slice y.A y.kids.length y.cap, .int .i64 (y.pos : Int)] := hnew 3 58 (by kernel_rfl)
  have f61 : sl 61 = .pointer (some ⟨gr, 0, none⟩) := hnew 6 61 (by kernel_rfl)
  have f62 : sl 62 = .slice (some ⟨b, off + 5, none⟩) (2) (c1_ + 2) := hnew 7 62 (by kernel_rfl)
  have f63 : sl 63 = .slice (some ⟨b, off + 10, none⟩) 1 (c1_ + 1) := hnew 8 63 (by kernel_rfl)
  change Exit.then _ _ .normal ⟨#[sl 0, sl 1, sl 2, sl 3, sl 4, sl 5, sl 6, sl 7, sl 8, sl 9, sl 10, sl 11, sl 12, sl 13, sl 14, sl 15, sl 16, sl 17, sl 18, sl 19, sl 20, sl 21, sl 22, sl 23, sl 24, sl 25, sl 26, sl 27, sl 28, sl 29, sl 30, sl 31, sl 32, sl 33, sl 34, sl 35, sl 36, sl 37, sl 38, sl 39, sl 40, sl 41, sl 42, sl 43, sl 44, sl 45, sl 46, sl 47, sl 48, sl 49, sl 50, sl 51, sl 52, sl 53, sl 54, sl 55, sl 56, sl 57, sl 58, sl 59, sl 60, sl 61, sl 62, sl 63, sl 64, sl 65, sl 66, sl 67, sl 68, sl 69, sl 70, sl 71, sl 72, sl 73, sl 74, sl 75, sl 76, sl 77, sl 78, sl 79, sl 80, sl 81, sl 82, sl 83, sl 84, sl 85, sl 86, sl 87, sl 88, sl 89, sl 90, sl 91, sl 92, sl 93, sl 94, sl 95, sl 96, sl 97, sl 98, sl 99, sl 100, sl 101, sl 102, sl 103, sl 104, sl 105, sl 106, sl 107, sl 108, sl 109, sl 110, sl 111, sl 112, sl 113, sl 114], _⟩ _
  simp only [f0, f4, f5, f55, f56, f57, f58, f61, f62, f63]
  clear hold hnew
  obtain ⟨hrb, m_, hbx, hm_, hq_⟩ := (⟨hst.1, hst.2⟩ : _ ∧ PmB _ _ _ _)
  go_wp2
  (try simp only [Exit.inBlock, Exit.then])
  refine bodyPost_ret (results_cell1 rfl _ _ _ _ _ rfl hbx Tryz.underlying27 rfl Tryz.sizePlan) rfl ?_
  exact ⟨m_, rfl, by rw [hm_]; exact HPP.out.symm, hq_.low (by have := E1.out.size; omega), ⟨by rw [HPE.out, ← orE_firsts]; exact hrb, but_w E1.out hI (Nat.le_succ _)⟩⟩

set_option maxRecDepth 100000 in
set_option maxHeartbeats 16000000 in
theorem rd_planJoin (m : M) (gr : Nat) (e : Er) (b0 : Nat) (w : World) (hB : Rb gr e w) (hL : Lies b0 [gr] w m) (hfair : m.t.every fairB = true) (hsz : m.t.size ≤ 10000) (hf : pForm m.t = true) (x : M) (q : List M) (hq : m.kids = x :: q) (hs : x.s = bJoin)
    (ih : ∀ y ∈ q, ∀ w1 e1, But [gr] w w1 → Rb gr e1 w1 → Calls Tryz.prog 27 #[.pointer (some ⟨gr, 0, none⟩), .agg #[.int .i64 y.kind, .string ⟨y.s.toArray⟩, .int .i64 y.n, .slice y.A y.kids.length y.cap, .int .i64 (y.pos : Int)]] w1 (RdPl gr e1 y.t w1)) :
    Calls Tryz.prog 27 #[.pointer (some ⟨gr, 0, none⟩), .agg #[.int .i64 m.kind, .string ⟨m.s.toArray⟩, .int .i64 m.n, .slice m.A m.kids.length m.cap, .int .i64 (m.pos : Int)]] w (RdPl gr e m.t w) := by
  have hmix : Tryz.prog.follows .mixedOrders = true := by kernel_rfl
  obtain ⟨hpp, hpe, hfo, hm1, hx2, hq1⟩ := plan_m hq hf
  obtain ⟨b, off, k, c, hPA⟩ := pl_at hL hq hq1
  have hgr := hB.lt
  have hHF := fun w1 (hE : Ev w w1) => pl_hasForm m b0 w1 ((hL.ev hE).less fun k hk => by cases hk)
  rw [hf] at hHF
  have HQS := Lib.hid (fun y (hy : y ∈ q) => q_size hq hy hfair hsz)
  have hqn := q_len hq hsz
  have HKC := Lib.hid (fun w1 (hb : But [gr] w w1) => hPA.kid 0 x (by rw [hq]; rfl) w1 hb)
  have HKD := Lib.hid (fun i y (hy : q[i]? = some y) w1 (hb : But [gr] w w1) => hPA.kid (i + 1) y (by rw [hq]; simpa using hy) w1 hb)
  simp only [Nat.zero_mul, Nat.add_zero, hs, hx2] at HKC
  rw [hs] at hpp hpe hfo
  unfold RdPl
  obtain ⟨PT, hPT⟩ : ∃ PT, PT = pPlan m.t := ⟨_, rfl⟩
  obtain ⟨PE, hPE⟩ : ∃ PE, PE = pErr m.t := ⟨_, rfl⟩
  rw [← hPT] at hpp ⊢
  rw [← hPE] at hpe ⊢
  have hA := hPA.hA
  have hn := hPA.hn
  have hc := hPA.hc
  have hkc := hPA.hkc
  have hcm := hPA.hcm
  have hql := hPA.hql
  have HPA := Lib.hid hPA
  clear hPA hPT hPE hq hL hfair hsz hq1 hf hx2
  generalize hk_ : m.kids.length = kn at *
  generalize hA_ : m.A = mA at *
  generalize hc_ : m.cap = mc at *
  generalize hk1_ : m.kind = kd at *
  generalize hs_ : m.s = ms at *
  generalize hn_ : m.n = mn at *
  generalize hp_ : m.pos = mp at *
  clear hk_ hA_ hc_ hk1_ hs_ hn_ hp_
  subst hm1
  subst hA
  subst hn
  subst hc
  obtain ⟨w0, hw0, hE0, hX, hR, hs0⟩ := bx_twoP w (.int .i64 1) (.string ⟨ms.toArray⟩) (.int .i64 mn) (.slice (some ⟨b, off, none⟩) (k + 2) (c + 2)) (.int .i64 (mp : Int))
  have HHF := Lib.hid hHF
  have HX := Lib.hid hX
  have HR := Lib.hid hR
  have HE := Lib.hid hE0
  have HB := Lib.hid hB
  have HIH := Lib.hid ih
  have HS := Lib.hid hs
  have HQL := Lib.hid hql
  have hbgr := HPA.out.bgr
  unfold bJoin at *
  obtain ⟨⟨c0, c1, c2, c3, c4⟩, _⟩ := hX.five
  obtain ⟨d0, d1, d2, d3, d4⟩ := HKC.out _ (But.of_ev hE0)
  clear hX hR hE0 hB hHF ih hs
  have hfo2 : ((q.map M.t).length == 4 && ((q.map M.t).take 2).all isNmsT) = true := hfo
  rw [Bool.and_eq_true, beq_iff_eq, List.length_map] at hfo2
  obtain ⟨l1, l2, y1, y2, rfl⟩ : ∃ l1 l2 y1 y2, q = [l1, l2, y1, y2] := by
    match q, hfo2.1 with
    | [a, b, c, d], _ => exact ⟨a, b, c, d, rfl⟩
  obtain rfl : k = 3 := by simpa using hql
  obtain ⟨c1_, rfl⟩ : ∃ c1, c = c1 + 2 := ⟨c - 2, by omega⟩
  have HPP : Hid (PT = .mk 4 [] [] [] (l1.kids.map M.s) (l2.kids.map M.s) [] [pPlan y1.t, pPlan y2.t]) := Lib.hid (by rw [hpp]; show Pl.mk 4 [] [] [] (l1.t.kids.map T.s) (l2.t.kids.map T.s) [] [pPlan y1.t, pPlan y2.t] = _; rw [M.t_kids, M.t_kids, List.map_map, List.map_map, funext M.t_s |> fun h => (show (T.s ∘ M.t) = M.s from h)])
  have HPE : Hid (PE = firsts ((l1.kids.map fun v => nmErr v.t) ++ ((l2.kids.map fun v => nmErr v.t) ++ [pErr y1.t, pErr y2.t]))) := Lib.hid (by rw [hpe]; show firsts (l1.t.kids.map nmErr ++ (l2.t.kids.map nmErr ++ [pErr y1.t, pErr y2.t])) = _; rw [M.t_kids, M.t_kids, List.map_map, List.map_map]; rfl)
  have hPS := fun e1 w1 (hb : But [gr] w w1) (hB1 : Rb gr e1 w1) => rd_plans gr e1 [y1, y2] _ _ _ b0 w1 hB1 (Ms.rest (Ms.rest (HPA.out.rest w1 hb))) (HPA.out.rng w1 hb _) (by omega) (fun v hv w2 e2 hb2 hB2 => HIH.out v (by simp at hv; rcases hv with rfl | rfl <;> simp) w2 e2 (hb.then hb2) hB2)
  unfold Sle.v at hPS
  have HPS := Lib.hid hPS
  have hK1 := HKD.out 0 l1 rfl
  have hK2 := HKD.out 1 l2 rfl
  simp only [Nat.zero_add, Nat.one_mul, show (1 + 1) * 5 = 10 from rfl] at hK1 hK2
  have KY1 := Lib.hid hK1
  have KY2 := Lib.hid hK2
  clear hpp hpe hfo hfo2 hPS hK1 hK2
  go_enter Tryz.func27, Tryz.ntmps27
  go_upto_region 16 with (first
    | ((with_reducible refine (HHF.out _ HE.out).mono ?_); rintro r w1 ⟨rfl, hE1⟩; have E1 := Lib.hid (HE.out.trans hE1); clear c0 c1 c2 c3 c4 d0 d1 d2 d3 d4; obtain ⟨⟨c0, c1, c2, c3, c4⟩, _⟩ := (HX.out.ev hE1).five; obtain ⟨d0, d1, d2, d3, d4⟩ := HKC.out _ (But.of_ev E1.out)))
  clear c0 c1 c2 c3 c4 d0 d1 d2 d3 d4
  have hw1 := E1.out.size
  have hsz1 := hE1.size
  have hg4 : w.heap.size + 1 ≠ gr := by omega
  refine wp_region_slotsC hmix (fun u => But [gr, w.heap.size + 1] w1 u) (But [gr, w.heap.size + 1]) [5, 11, 15, 17] (StF gr (w.heap.size + 1) w1.heap.size [e, orE e (firsts (l1.kids.map fun v => nmErr v.t)), orE (orE e (firsts (l1.kids.map fun v => nmErr v.t))) (firsts (l2.kids.map fun v => nmErr v.t)), orE (orE (orE e (firsts (l1.kids.map fun v => nmErr v.t))) (firsts (l2.kids.map fun v => nmErr v.t))) (firsts [pErr y1.t, pErr y2.t]), orE (orE (orE e (firsts (l1.kids.map fun v => nmErr v.t))) (firsts (l2.kids.map fun v => nmErr v.t))) (firsts [pErr y1.t, pErr y2.t])] (.mk 4 [] [] [] (l1.kids.map M.s) (l2.kids.map M.s) [] [pPlan y1.t, pPlan y2.t])) [fun v _ => v = .pointer (some ⟨gr, 0, none⟩), fun v _ => v = .slice (some ⟨b, off + 5, none⟩) (4) (c1_ + 3), fun v _ => v = .pointer (some ⟨b, off + 5, none⟩), fun v _ => v = .pointer (some ⟨b, off + 5 + 3, none⟩), fun v _ => v = .slice l1.A l1.kids.length l1.cap, NsF w1.heap.size (l1.kids.map M.s), fun v _ => v = .pointer (some ⟨gr, 0, none⟩), fun v _ => v = .slice (some ⟨b, off + 5, none⟩) (4) (c1_ + 3), fun v _ => v = .pointer (some ⟨b, off + 10, none⟩), fun v _ => v = .pointer (some ⟨b, off + 10 + 3, none⟩), fun v _ => v = .slice l2.A l2.kids.length l2.cap, NsF w1.heap.size (l2.kids.map M.s), fun v _ => v = .pointer (some ⟨gr, 0, none⟩), fun v _ => v = .slice (some ⟨b, off + 5, none⟩) (4) (c1_ + 3), fun v _ => v = .slice (some ⟨b, off + 15, none⟩) 2 (c1_ + 1), PsF w1.heap.size [pPlan y1.t, pPlan y2.t], PmF w1.heap.size (.mk 4 [] [] [] (l1.kids.map M.s) (l2.kids.map M.s) [] [pPlan y1.t, pPlan y2.t]), fun _ _ => True]
    115 4 rfl (by kernel_rfl) ⟨mono_eq _, mono_eq _, mono_eq _, mono_eq _, mono_eq _, NsF.mono _ _, mono_eq _, mono_eq _, mono_eq _, mono_eq _, mono_eq _, NsF.mono _ _, mono_eq _, mono_eq _, mono_eq _, PsF.mono _ _, PmF.mono _ _, mono_true, trivial⟩ ⟨fun _ _ _ _ h => h, fun _ _ _ _ h => h, fun _ _ _ _ h => h, fun _ _ _ _ h => h, fun _ _ _ _ h => h, NsF.old (old_2 (by omega) (by omega)), fun _ _ _ _ h => h, fun _ _ _ _ h => h, fun _ _ _ _ h => h, fun _ _ _ _ h => h, fun _ _ _ _ h => h, NsF.old (old_2 (by omega) (by omega)), fun _ _ _ _ h => h, fun _ _ _ _ h => h, fun _ _ _ _ h => h, PsF.old (old_2 (by omega) (by omega)), PmF.old (old_2 (by omega) (by omega)), fun _ _ _ _ h => h, trivial⟩ (by kernel_rfl) (StF.ev _ _ _ _ _) (fun u u' hE h => h.then (But.of_ev hE)) (But.refl _ _) (⟨HB.out.ev E1.out, HR.out.ev hE1⟩) (by kernel_rfl) ?_ ?_ ?_
  · refine opc_cons 0 ?_ (opc_cons 1 ?_ (opc_cons 2 ?_ (opc_cons 3 ?_ (opc_cons 4 ?_ (opc_turn 5 (by decide) (opc_cons 6 ?_ (opc_cons 7 ?_ (opc_cons 8 ?_ (opc_cons 9 ?_ (opc_cons 10 ?_ (opc_turn 11 (by decide) (opc_cons 12 ?_ (opc_cons 13 ?_ (opc_cons 14 ?_ (opc_turn 15 (by decide) (opc_cons 16 ?_ (opc_turn 17 (by decide) (opc_nil 18))))))))))))))))))
    · refine opc_value fun a w c => ⟨(wanted_plain rfl), _, run_move _ rfl w, (c.was 0 (by kernel_rfl) rfl)⟩
    · refine opc_value fun a w c => ⟨(wanted_plain rfl), _, run_move _ rfl w, (c.was 5 (by kernel_rfl) rfl)⟩
    · refine opc_value fun a wq c => ⟨(wanted_plain rfl), .pointer (some ⟨b, off + 5, none⟩), ?_, rfl⟩
      have e_0 : a.eval (.tmp 87) = .slice (some ⟨b, off + 5, none⟩) (4) (c1_ + 3) := (c.new 1 87 (by kernel_rfl) (by kernel_rfl))
      have kc0 : a.eval (.const (.int .i64 0)) = .int .i64 0 := rfl
      generalize a.eval = ρ at e_0 kc0 ⊢
      simp [execOp, e_0, kc0, go_sem]
    · refine opc_value fun a wq c => ⟨(wanted_plain rfl), .pointer (some ⟨b, off + 5 + 3, none⟩), ?_, rfl⟩
      have e_0 : a.eval (.tmp 88) = .pointer (some ⟨b, off + 5, none⟩) := (c.new 2 88 (by kernel_rfl) (by kernel_rfl))
      generalize a.eval = ρ at e_0 ⊢
      simp [execOp, e_0, go_sem]
    · refine opc_value fun a wq c => ⟨(wanted_plain rfl), .slice l1.A l1.kids.length l1.cap, ?_, rfl⟩
      have e_0 : a.eval (.tmp 89) = .pointer (some ⟨b, off + 5 + 3, none⟩) := (c.new 3 89 (by kernel_rfl) (by kernel_rfl))
      have hc := (KY1.out wq (but_w E1.out c.inv (Nat.le_succ _))).2.2.2.1
      generalize a.eval = ρ at e_0 ⊢
      simp [execOp, e_0, hc, go_sem]
    · refine opc_value fun a w c => ⟨(wanted_plain rfl), _, run_move _ rfl w, (c.was 0 (by kernel_rfl) rfl)⟩
    · refine opc_value fun a w c => ⟨(wanted_plain rfl), _, run_move _ rfl w, (c.was 5 (by kernel_rfl) rfl)⟩
    · refine opc_value fun a wq c => ⟨(wanted_plain rfl), .pointer (some ⟨b, off + 10, none⟩), ?_, rfl⟩
      have e_0 : a.eval (.tmp 93) = .slice (some ⟨b, off + 5, none⟩) (4) (c1_ + 3) := (c.new 7 93 (by kernel_rfl) (by kernel_rfl))
      have kc0 : a.eval (.const (.int .i64 1)) = .int .i64 1 := rfl
      generalize a.eval = ρ at e_0 kc0 ⊢
      simp [execOp, e_0, kc0, go_sem]
    · refine opc_value fun a wq c => ⟨(wanted_plain rfl), .pointer (some ⟨b, off + 10 + 3, none⟩), ?_, rfl⟩
      have e_0 : a.eval (.tmp 94) = .pointer (some ⟨b, off + 10, none⟩) := (c.new 8 94 (by kernel_rfl) (by kernel_rfl))
      generalize a.eval = ρ at e_0 ⊢
      simp [execOp, e_0, go_sem]
    · refine opc_value fun a wq c => ⟨(wanted_plain rfl), .slice l2.A l2.kids.length l2.cap, ?_, rfl⟩
      have e_0 : a.eval (.tmp 95) = .pointer (some ⟨b, off + 10 + 3, none⟩) := (c.new 9 95 (by kernel_rfl) (by kernel_rfl))
      have hc := (KY2.out wq (but_w E1.out c.inv (Nat.le_succ _))).2.2.2.1
      generalize a.eval = ρ at e_0 ⊢
      simp [execOp, e_0, hc, go_sem]
    · refine opc_value fun a w c => ⟨(wanted_plain rfl), _, run_move _ rfl w, (c.was 0 (by kernel_rfl) rfl)⟩
    · refine opc_value fun a w c => ⟨(wanted_plain rfl), _, run_move _ rfl w, (c.was 5 (by kernel_rfl) rfl)⟩
    · refine opc_value fun a wq c => ⟨(wanted_plain rfl), .slice (some ⟨b, off + 15, none⟩) 2 (c1_ + 1), ?_, rfl⟩
      have e_0 : a.eval (.tmp 99) = .slice (some ⟨b, off + 5, none⟩) (4) (c1_ + 3) := (c.new 13 99 (by kernel_rfl) (by kernel_rfl))
      have kc2 : a.eval (.const (.int .i64 2)) = .int .i64 2 := rfl
      generalize a.eval = ρ at e_0 kc2 ⊢
      simp [execOp, e_0, kc2, go_sem]
    · refine opc_value fun a wq c => ?_
      obtain ⟨N1_, eN1_, h1l, h1s⟩ := (c.got 5 91 (by kernel_rfl) (by kernel_rfl) rfl : NsF _ _ _ _)
      obtain ⟨N2_, eN2_, h2l, h2s⟩ := (c.got 11 97 (by kernel_rfl) (by kernel_rfl) rfl : NsF _ _ _ _)
      obtain ⟨Y_, eY_, hYl, hYs, hYq⟩ := (c.got 15 101 (by kernel_rfl) (by kernel_rfl) rfl : PsF _ _ _ _)
      refine ⟨(wanted_plain rfl), _, ?_, ⟨.mk 4 [] .nil .nil N1_ N2_ .nil Y_.A Y_.cap Y_.l, rfl, by rw [PM.p_eq, ← h1l, ← h2l, ← hYl]; rfl, .mk (SleAt.nil ..) (fun _ h => by cases h) (SleAt.nil ..) h1s h2s (SleAt.nil ..) hYs hYq⟩⟩
      have kc0 : a.eval (.const (.int .i64 4)) = .int .i64 4 := rfl
      generalize a.eval = ρ at eN1_ eN2_ eY_ kc0 ⊢
      simp [execOp, eN1_, eN2_, eY_, kc0, go_sem, PM.kind, PM.name, PM.ex, PM.co, PM.lf, PM.rt, PM.ag, PM.A, PM.cap, PM.kids, Sle.nil]
  · refine trn_cons 0 rfl ?_ (trn_cons 1 rfl ?_ (trn_cons 2 rfl ?_ (trn_cons 3 rfl ?_ (trn_nil 4))))
    · refine opt_call fun a wq c st => ⟨wanted_plain rfl, 57, #[.pointer (some ⟨gr, 0, none⟩), .slice l1.A l1.kids.length l1.cap], ?_, ?_⟩
      · rw [run_call 57 _ _ rfl (by kernel_rfl)]
        have e_0 : a.eval (.tmp 86) = .pointer (some ⟨gr, 0, none⟩) := (c.new 0 86 (by kernel_rfl) (by kernel_rfl))
        have e_1 : a.eval (.tmp 90) = .slice l1.A l1.kids.length l1.cap := (c.new 4 90 (by kernel_rfl) (by kernel_rfl))
        simp [e_0, e_1]
      · have hbw := but_w E1.out c.inv (Nat.le_succ _)
        have hsz := c.inv.size
        refine (rd_names gr _ l1.kids _ _ _ b0 wq st.1 (kids_ms (HPA.out.lies l1 (by simp) wq hbw)).1 (kids_ms (HPA.out.lies l1 (by simp) wq hbw)).2 (kids_len (HQS.out l1 (by simp)).2)).mono ?_
        rintro r wp ⟨X_, rfl, hXl, hXs, hRO⟩
        exact ⟨_, rfl, but_r hRO.but, c.inv.then (but_r hRO.but), st_call (E := e) st hRO rfl (by simp) hg4, ⟨X_, rfl, hXl, hXs.low hsz⟩⟩
    · refine opt_call fun a wq c st => ⟨wanted_plain rfl, 57, #[.pointer (some ⟨gr, 0, none⟩), .slice l2.A l2.kids.length l2.cap], ?_, ?_⟩
      · rw [run_call 57 _ _ rfl (by kernel_rfl)]
        have e_0 : a.eval (.tmp 92) = .pointer (some ⟨gr, 0, none⟩) := (c.new 6 92 (by kernel_rfl) (by kernel_rfl))
        have e_1 : a.eval (.tmp 96) = .slice l2.A l2.kids.length l2.cap := (c.new 10 96 (by kernel_rfl) (by kernel_rfl))
        simp [e_0, e_1]
      · have hbw := but_w E1.out c.inv (Nat.le_succ _)
        have hsz := c.inv.size
        refine (rd_names gr _ l2.kids _ _ _ b0 wq st.1 (kids_ms (HPA.out.lies l2 (by simp) wq hbw)).1 (kids_ms (HPA.out.lies l2 (by simp) wq hbw)).2 (kids_len (HQS.out l2 (by simp)).2)).mono ?_
        rintro r wp ⟨X_, rfl, hXl, hXs, hRO⟩
        exact ⟨_, rfl, but_r hRO.but, c.inv.then (but_r hRO.but), st_call (E := e) st hRO rfl (by simp) hg4, ⟨X_, rfl, hXl, hXs.low hsz⟩⟩
    · refine opt_call fun a wq c st => ⟨wanted_plain rfl, 55, #[.pointer (some ⟨gr, 0, none⟩), .slice (some ⟨b, off + 15, none⟩) 2 (c1_ + 1)], ?_, ?_⟩
      · rw [run_call 55 _ _ rfl (by kernel_rfl)]
        have e_0 : a.eval (.tmp 98) = .pointer (some ⟨gr, 0, none⟩) := (c.new 12 98 (by kernel_rfl) (by kernel_rfl))
        have e_1 : a.eval (.tmp 100) = .slice (some ⟨b, off + 15, none⟩) 2 (c1_ + 1) := (c.new 14 100 (by kernel_rfl) (by kernel_rfl))
        simp [e_0, e_1]
      · have hbw := but_w E1.out c.inv (Nat.le_succ _)
        have hsz := c.inv.size
        refine (HPS.out _ wq hbw st.1).mono ?_
        rintro r wp ⟨X_, rfl, hXl, hXs, hXq, hRO⟩
        exact ⟨_, rfl, but_r hRO.but, c.inv.then (but_r hRO.but), st_call (E := e) st hRO rfl (by simp) hg4, ⟨X_, rfl, hXl, hXs.low hsz, fun k_ hk_ => (hXq k_ hk_).low hsz⟩⟩
    · refine opt_store rfl fun a wq c st => ?_
      obtain ⟨m_, em_, hm_, hq_⟩ := (c.got 16 102 (by kernel_rfl) (by kernel_rfl) rfl : PmF _ _ _ _)
      have e4 : a.eval (.tmp 4) = .pointer (some ⟨w.heap.size + 1, 0, none⟩) := (c.was 4 (by kernel_rfl) rfl)
      have hbx : Bx 27 (w.heap.size + 1) #[.int .i64 0, .string ⟨#[]⟩, .slice none 0 0, .slice none 0 0, .slice none 0 0, .slice none 0 0, .slice none 0 0, .slice none 0 0] wq := st.2
      obtain ⟨⟨r0, r1, r2, r3, r4, r5, r6, r7⟩, s0, s1, s2, s3, s4, s5, s6, s7⟩ := hbx.eight
      refine ⟨wanted_plain rfl, set8 (w.heap.size + 1) (.int .i64 m_.kind) (.string ⟨m_.name.toArray⟩) (.slice m_.ex.A m_.ex.l.length m_.ex.cap) (.slice m_.co.A m_.co.l.length m_.co.cap) (.slice m_.lf.A m_.lf.l.length m_.lf.cap) (.slice m_.rt.A m_.rt.l.length m_.rt.cap) (.slice m_.ag.A m_.ag.l.length m_.ag.cap) (.slice m_.A m_.kids.length m_.cap) wq, ?_, but_4 (set8_but _ _ _ _ _ _ _ _ _ _), c.inv.then (but_4 (set8_but _ _ _ _ _ _ _ _ _ _)), ⟨st.1.but (set8_but _ _ _ _ _ _ _ _ _ _) (by simp; omega), ⟨m_, hbx.set8 _ _ _ _ _ _ _ _, hm_, qx_old hq_ (set8_but _ _ _ _ _ _ _ _ _ _) (fun y hy => by simp at hy; omega)⟩⟩, trivial⟩
      generalize a.eval = ρ at em_ e4 ⊢
      simp [execOp, em_, e4, go_sem, r0, r1, r2, r3, r4, r5, r6, r7, s0, s1, s2, s3, s4, s5, s6, s7, set8, set5, set4]
  intro sl w9 hI hold hnew hst
  have f0 : sl 0 = .pointer (some ⟨gr, 0, none⟩) := hold 0 (by kernel_rfl)
  have f4 : sl 4 = .pointer (some ⟨w.heap.size + 1, 0, none⟩) := hold 4 (by kernel_rfl)
  have f5 : sl 5 = .slice (some ⟨b, off + 5, none⟩) (4) (c1_ + 3) := hold 5 (by kernel_rfl)
  have f86 : sl 86 = .pointer (some ⟨gr, 0, none⟩) := hnew 0 86 (by kernel_rfl)
  have f87 : sl 87 = .slice (some ⟨b, off + 5, none⟩) (4) (c1_ + 3) := hnew 1 87 (by kernel_rfl)
  have f88 : sl 88 = .pointer (some ⟨b, off + 5, none⟩) := hnew 2 88 (by kernel_rfl)
  have f89 : sl 89 = .pointer (some ⟨b, off + 5 + 3, none⟩) := hnew 3 89 (by kernel_rfl)
  have f90 : sl 90 = .slice l1.A l1.kids.length l1.cap := hnew 4 90 (by kernel_rfl)
  have f92 : sl 92 = .pointer (some ⟨gr, 0, none⟩) := hnew 6 92 (by kernel_rfl)
  have f93 : sl 93 = .slice (some ⟨b, off + 5, none⟩) (4) (c1_ + 3) := hnew 7 93 (by kernel_rfl)
  have f94 : sl 94 = .pointer (some ⟨b, off + 10, none⟩) := hnew 8 94 (by kernel_rfl)
  have f95 : sl 95 = .pointer (some ⟨b, off + 10 + 3, none⟩) := hnew 9 95 (by kernel_rfl)
  have f96 : sl 96 = .slice l2.A l2.kids.length l2.cap := hnew 10 96 (by kernel_rfl)
  have f98 : sl 98 = .pointer (some ⟨gr, 0, none⟩) := hnew 12 98 (by kernel_rfl)
  have f99 : sl 99 = .slice (some ⟨b, off + 5, none⟩) (4) (c1_ + 3) := hnew 13 99 (by kernel_rfl)
  have f100 : sl 100 = .slice (some ⟨b, off + 15, none⟩) 2 (c1_ + 1) := hnew 14 100 (by kernel_rfl)
  change Exit.then _ _ .normal ⟨#[sl 0, sl 1, sl 2, sl 3, sl 4, sl 5, sl 6, sl 7, sl 8, sl 9, sl 10, sl 11, sl 12, sl 13, sl 14, sl 15, sl 16, sl 17, sl 18, sl 19, sl 20, sl 21, sl 22, sl 23, sl 24, sl 25, sl 26, sl 27, sl 28, sl 29, sl 30, sl 31, sl 32, sl 33, sl 34, sl 35, sl 36, sl 37, sl 38, sl 39, sl 40, sl 41, sl 42, sl 43, sl 44, sl 45, sl 46, sl 47, sl 48, sl 49, sl 50, sl 51, sl 52, sl 53, sl 54, sl 55, sl 56, sl 57, sl 58, sl 59, sl 60, sl 61, sl 62, sl 63, sl 64, sl 65, sl 66, sl 67, sl 68, sl 69, sl 70, sl 71, sl 72, sl 73, sl 74, sl 75, sl 76, sl 77, sl 78, sl 79, sl 80, sl 81, sl 82, sl 83, sl 84, sl 85, sl 86, sl 87, sl 88, sl 89, sl 90, sl 91, sl 92, sl 93, sl 94, sl 95, sl 96, sl 97, sl 98, sl 99, sl 100, sl 101, sl 102, sl 103, sl 104, sl 105, sl 106, sl 107, sl 108, sl 109, sl 110, sl 111, sl 112, sl 113, sl 114], _⟩ _
  simp only [f0, f4, f5, f86, f87, f88, f89, f90, f92, f93, f94, f95, f96, f98, f99, f100]
  clear hold hnew
  obtain ⟨hrb, m_, hbx, hm_, hq_⟩ := (⟨hst.1, hst.2⟩ : _ ∧ PmB _ _ _ _)
  go_wp2
  (try simp only [Exit.inBlock, Exit.then])
  refine bodyPost_ret (results_cell1 rfl _ _ _ _ _ rfl hbx Tryz.underlying27 rfl Tryz.sizePlan) rfl ?_
  exact ⟨m_, rfl, by rw [hm_]; exact HPP.out.symm, hq_.low (by have := E1.out.size; omega), ⟨by rw [HPE.out, ← firsts_append, ← firsts_append]; exact hrb, but_w E1.out hI (Nat.le_succ _)⟩⟩

set_option maxRecDepth 100000 in
set_option maxHeartbeats 16000000 in
theorem rd_planGroup (m : M) (gr : Nat) (e : Er) (b0 : Nat) (w : World) (hB : Rb gr e w) (hL : Lies b0 [gr] w m) (hfair : m.t.every fairB = true) (hsz : m.t.size ≤ 10000) (hf : pForm m.t = true) (x : M) (q : List M) (hq : m.kids = x :: q) (hs : x.s = bGroup)
    (ih : ∀ y ∈ q, ∀ w1 e1, But [gr] w w1 → Rb gr e1 w1 → Calls Tryz.prog 27 #[.pointer (some ⟨gr, 0, none⟩), .agg #[.int .i64 y.kind, .string ⟨y.s.toArray⟩, .int .i64 y.n, .slice y.A y.kids.length y.cap, .int .i64 (y.pos : Int)]] w1 (RdPl gr e1 y.t w1)) :
    Calls Tryz.prog 27 #[.pointer (some ⟨gr, 0, none⟩), .agg #[.int .i64 m.kind, .string ⟨m.s.toArray⟩, .int .i64 m.n, .slice m.A m.kids.length m.cap, .int .i64 (m.pos : Int)]] w (RdPl gr e m.t w) := by
  have hmix : Tryz.prog.follows .mixedOrders = true := by kernel_rfl
  obtain ⟨hpp, hpe, hfo, hm1, hx2, hq1⟩ := plan_m hq hf
  obtain ⟨b, off, k, c, hPA⟩ := pl_at hL hq hq1
  have hgr := hB.lt
  have hHF := fun w1 (hE : Ev w w1) => pl_hasForm m b0 w1 ((hL.ev hE).less fun k hk => by cases hk)
  rw [hf] at hHF
  have HQS := Lib.hid (fun y (hy : y ∈ q) => q_size hq hy hfair hsz)
  have hqn := q_len hq hsz
  have HKC := Lib.hid (fun w1 (hb : But [gr] w w1) => hPA.kid 0 x (by rw [hq]; rfl) w1 hb)
  have HKD := Lib.hid (fun i y (hy : q[i]? = some y) w1 (hb : But [gr] w w1) => hPA.kid (i + 1) y (by rw [hq]; simpa using hy) w1 hb)
  simp only [Nat.zero_mul, Nat.add_zero, hs, hx2] at HKC
  rw [hs] at hpp hpe hfo
  unfold RdPl
  obtain ⟨PT, hPT⟩ : ∃ PT, PT = pPlan m.t := ⟨_, rfl⟩
  obtain ⟨PE, hPE⟩ : ∃ PE, PE = pErr m.t := ⟨_, rfl⟩
  rw [← hPT] at hpp ⊢
  rw [← hPE] at hpe ⊢
  have hA := hPA.hA
  have hn := hPA.hn
  have hc := hPA.hc
  have hkc := hPA.hkc
  have hcm := hPA.hcm
  have hql := hPA.hql
  have HPA := Lib.hid hPA
  clear hPA hPT hPE hq hL hfair hsz hq1 hf hx2
  generalize hk_ : m.kids.length = kn at *
  generalize hA_ : m.A = mA at *
  generalize hc_ : m.cap = mc at *
  generalize hk1_ : m.kind = kd at *
  generalize hs_ : m.s = ms at *
  generalize hn_ : m.n = mn at *
  generalize hp_ : m.pos = mp at *
  clear hk_ hA_ hc_ hk1_ hs_ hn_ hp_
  subst hm1
  subst hA
  subst hn
  subst hc
  obtain ⟨w0, hw0, hE0, hX, hR, hs0⟩ := bx_twoP w (.int .i64 1) (.string ⟨ms.toArray⟩) (.int .i64 mn) (.slice (some ⟨b, off, none⟩) (k + 2) (c + 2)) (.int .i64 (mp : Int))
  have HHF := Lib.hid hHF
  have HX := Lib.hid hX
  have HR := Lib.hid hR
  have HE := Lib.hid hE0
  have HB := Lib.hid hB
  have HIH := Lib.hid ih
  have HS := Lib.hid hs
  have HQL := Lib.hid hql
  have hbgr := HPA.out.bgr
  unfold bGroup at *
  obtain ⟨⟨c0, c1, c2, c3, c4⟩, _⟩ := hX.five
  obtain ⟨d0, d1, d2, d3, d4⟩ := HKC.out _ (But.of_ev hE0)
  clear hX hR hE0 hB hHF ih hs
  have hfo2 : (decide (2 ≤ (q.map M.t).length) && isNmsT (at_ (q.map M.t) 0) && (((q.map M.t).take ((q.map M.t).length - 1)).drop 1).all isAggT) = true := hfo
  rw [Bool.and_eq_true, Bool.and_eq_true, decide_eq_true_eq, List.length_map, hql, Nat.add_sub_cancel, ← List.map_take] at hfo2
  obtain ⟨⟨hk1, _⟩, hagg⟩ := hfo2
  obtain ⟨k1, rfl⟩ : ∃ k1, k = k1 + 1 := ⟨k - 1, by omega⟩
  obtain ⟨c1_, rfl⟩ : ∃ c1, c = c1 + 1 := ⟨c - 1, by omega⟩
  obtain ⟨l1, r, rfl⟩ : ∃ l1 r, q = l1 :: r := by
    cases q with
    | nil => simp at hql
    | cons a b => exact ⟨a, b, rfl⟩
  have hrl : r.length = k1 + 1 := by simpa using hql
  rw [List.take_succ_cons, List.map_cons, List.drop_succ_cons, List.drop_zero, List.all_map, List.all_eq_true] at hagg
  have hlen : ((l1 :: r).map M.t).length - 1 = k1 + 1 := by simp [hrl]
  have HPP : Hid (PT = .mk 7 [] [] [] (l1.kids.map M.s) [] ((r.take k1).map fun v => agOf v.t) ((r.drop k1).map fun v => pPlan v.t)) := Lib.hid (by
    rw [hpp]
    show Pl.mk 7 [] [] [] (l1.t.kids.map T.s) [] (((((l1 :: r).map M.t).take (((l1 :: r).map M.t).length - 1)).drop 1).map agOf) ((((l1 :: r).map M.t).map pPlan).drop (((l1 :: r).map M.t).length - 1)) = _
    rw [hlen, M.t_kids, List.map_map, funext M.t_s |> fun h => (show (T.s ∘ M.t) = M.s from h), List.map_cons, List.take_succ_cons, List.drop_succ_cons, List.drop_zero, List.map_cons, List.drop_succ_cons, ← List.map_take, List.map_map, List.map_map, ← List.map_drop]
    rfl)
  have HPE : Hid (PE = firsts ((l1.kids.map fun v => nmErr v.t) ++ (((r.take k1).flatMap fun v => agErrs v.t) ++ (r.drop k1).map fun v => pErr v.t))) := Lib.hid (by
    rw [hpe]
    show firsts (l1.t.kids.map nmErr ++ (((((l1 :: r).map M.t).take (((l1 :: r).map M.t).length - 1)).drop 1).flatMap agErrs ++ (((l1 :: r).map M.t).map pErr).drop (((l1 :: r).map M.t).length - 1))) = _
    rw [hlen, M.t_kids, List.map_map, List.map_cons, List.take_succ_cons, List.drop_succ_cons, List.drop_zero, List.map_cons, List.drop_succ_cons, ← List.map_take, List.map_map, List.flatMap_map, ← List.map_drop]
    rfl)
  have hAG := fun e1 w1 (hb : But [gr] w w1) (hB1 : Rb gr e1 w1) => rd_aggs gr e1 (r.take k1) _ _ _ b0 w1 hB1 ((Ms.rest (HPA.out.rest w1 hb)).to k1 (by omega)) (HPA.out.rng w1 hb _) (by simp at hqn; omega) (fun v hv => hagg v hv) (fun v hv => HPA.out.lies v (List.mem_cons_of_mem _ (List.mem_of_mem_take hv)) w1 hb)
  have hPS := fun e1 w1 (hb : But [gr] w w1) (hB1 : Rb gr e1 w1) => rd_plans gr e1 (r.drop k1) _ _ _ b0 w1 hB1 ((HPA.out.rest w1 hb).drop (k := k1 + 1) (by omega)) (HPA.out.rng w1 hb _) (by omega) (fun v hv w2 e2 hb2 hB2 => HIH.out v (List.mem_cons_of_mem _ (List.mem_of_mem_drop hv)) w2 e2 (hb.then hb2) hB2)
  unfold Sle.v at hPS hAG
  simp only [Nat.add_sub_cancel_left] at hPS
  have HAG := Lib.hid hAG
  have HPS := Lib.hid hPS
  have hK1 := HKD.out 0 l1 rfl
  simp only [Nat.zero_add, Nat.one_mul] at hK1
  have KY1 := Lib.hid hK1
  have n00 : ¬ ((k1 : Int) + 1 + 1 ≤ 0) := by omega
  have t2 : ((k1 : Int) + 2).toNat = k1 + 2 := by omega
  have p1 : (1 : Int) ≤ (k1 : Int) + 2 := by omega
  have p2 : (k1 : Int) + 2 - 1 ≤ (c1_ : Int) + 1 + 1 := by omega
  have p3 : ¬ ((k1 : Int) + 1 < 1) := by omega
  have p4 : (k1 : Int) + 2 - 1 ≤ (k1 : Int) + 1 + 1 := by omega
  have i5 : ¬ c1_ + 1 = k1 := by omega
  clear hpp hpe hfo hagg hPS hAG hK1
  go_enter Tryz.func27, Tryz.ntmps27
  go_upto_region 7 with (first
    | ((with_reducible refine (HHF.out _ HE.out).mono ?_); rintro r w1 ⟨rfl, hE1⟩; have E1 := Lib.hid (HE.out.trans hE1); clear c0 c1 c2 c3 c4 d0 d1 d2 d3 d4; obtain ⟨⟨c0, c1, c2, c3, c4⟩, _⟩ := (HX.out.ev hE1).five; obtain ⟨d0, d1, d2, d3, d4⟩ := HKC.out _ (But.of_ev E1.out)))
  clear c0 c1 c2 c3 c4 d0 d1 d2 d3 d4
  have hw1 := E1.out.size
  have hsz1 := hE1.size
  have hg4 : w.heap.size + 1 ≠ gr := by omega
  refine wp_region_slotsC hmix (fun u => But [gr, w.heap.size + 1] w1 u) (But [gr, w.heap.size + 1]) [5, 10, 15, 17] (StF gr (w.heap.size + 1) w1.heap.size [e, orE e (firsts (l1.kids.map fun v => nmErr v.t)), orE (orE e (firsts (l1.kids.map fun v => nmErr v.t))) (firsts ((r.take k1).flatMap fun v => agErrs v.t)), orE (orE (orE e (firsts (l1.kids.map fun v => nmErr v.t))) (firsts ((r.take k1).flatMap fun v => agErrs v.t))) (firsts ((r.drop k1).map fun v => pErr v.t)), orE (orE (orE e (firsts (l1.kids.map fun v => nmErr v.t))) (firsts ((r.take k1).flatMap fun v => agErrs v.t))) (firsts ((r.drop k1).map fun v => pErr v.t))] (.mk 7 [] [] [] (l1.kids.map M.s) [] ((r.take k1).map fun v => agOf v.t) ((r.drop k1).map fun v => pPlan v.t))) [fun v _ => v = .pointer (some ⟨gr, 0, none⟩), fun v _ => v = .slice (some ⟨b, off + 5, none⟩) (k1 + 1 + 1) (c1_ + 1 + 1), fun v _ => v = .pointer (some ⟨b, off + 5, none⟩), fun v _ => v = .pointer (some ⟨b, off + 5 + 3, none⟩), fun v _ => v = .slice l1.A l1.kids.length l1.cap, NsF w1.heap.size (l1.kids.map M.s), fun v _ => v = .pointer (some ⟨gr, 0, none⟩), fun v _ => v = .slice (some ⟨b, off + 5, none⟩) (k1 + 1 + 1) (c1_ + 1 + 1), fun v _ => v = .int .i64 ((k1 : Int) + 2 - 1), fun v _ => v = .slice (some ⟨b, off + 10, none⟩) k1 (c1_ + 1), AsF w1.heap.size ((r.take k1).map fun v => agOf v.t), fun v _ => v = .pointer (some ⟨gr, 0, none⟩), fun v _ => v = .slice (some ⟨b, off + 5, none⟩) (k1 + 1 + 1) (c1_ + 1 + 1), fun v _ => v = .int .i64 ((k1 : Int) + 2 - 1), fun v _ => v = .slice (some ⟨b, off + 5 + (k1 + 1) * 5, none⟩) 1 (c1_ + 1 + 1 - (k1 + 1)), PsF w1.heap.size ((r.drop k1).map fun v => pPlan v.t), PmF w1.heap.size (.mk 7 [] [] [] (l1.kids.map M.s) [] ((r.take k1).map fun v => agOf v.t) ((r.drop k1).map fun v => pPlan v.t)), fun _ _ => True]
    115 4 rfl (by kernel_rfl) ⟨mono_eq _, mono_eq _, mono_eq _, mono_eq _, mono_eq _, NsF.mono _ _, mono_eq _, mono_eq _, mono_eq _, mono_eq _, AsF.mono _ _, mono_eq _, mono_eq _, mono_eq _, mono_eq _, PsF.mono _ _, PmF.mono _ _, mono_true, trivial⟩ ⟨fun _ _ _ _ h => h, fun _ _ _ _ h => h, fun _ _ _ _ h => h, fun _ _ _ _ h => h, fun _ _ _ _ h => h, NsF.old (old_2 (by omega) (by omega)), fun _ _ _ _ h => h, fun _ _ _ _ h => h, fun _ _ _ _ h => h, fun _ _ _ _ h => h, AsF.old (old_2 (by omega) (by omega)), fun _ _ _ _ h => h, fun _ _ _ _ h => h, fun _ _ _ _ h => h, fun _ _ _ _ h => h, PsF.old (old_2 (by omega) (by omega)), PmF.old (old_2 (by omega) (by omega)), fun _ _ _ _ h => h, trivial⟩ (by kernel_rfl) (StF.ev _ _ _ _ _) (fun u u' hE h => h.then (But.of_ev hE)) (But.refl _ _) (⟨HB.out.ev E1.out, HR.out.ev hE1⟩) (by kernel_rfl) ?_ ?_ ?_
  · refine opc_cons 0 ?_ (opc_cons 1 ?_ (opc_cons 2 ?_ (opc_cons 3 ?_ (opc_cons 4 ?_ (opc_turn 5 (by decide) (opc_cons 6 ?_ (opc_cons 7 ?_ (opc_cons 8 ?_ (opc_cons 9 ?_ (opc_turn 10 (by decide) (opc_cons 11 ?_ (opc_cons 12 ?_ (opc_cons 13 ?_ (opc_cons 14 ?_ (opc_turn 15 (by decide) (opc_cons 16 ?_ (opc_turn 17 (by decide) (opc_nil 18))))))))))))))))))
    · refine opc_value fun a w c => ⟨(wanted_plain rfl), _, run_move _ rfl w, (c.was 0 (by kernel_rfl) rfl)⟩
    · refine opc_value fun a w c => ⟨(wanted_plain rfl), _, run_move _ rfl w, (c.was 5 (by kernel_rfl) rfl)⟩
    · refine opc_value fun a wq c => ⟨(wanted_plain rfl), .pointer (some ⟨b, off + 5, none⟩), ?_, rfl⟩
      have e_0 : a.eval (.tmp 29) = .slice (some ⟨b, off + 5, none⟩) (k1 + 1 + 1) (c1_ + 1 + 1) := (c.new 1 29 (by kernel_rfl) (by kernel_rfl))
      have kc0 : a.eval (.const (.int .i64 0)) = .int .i64 0 := rfl
      generalize a.eval = ρ at e_0 kc0 ⊢
      simp [execOp, e_0, kc0, go_sem, n00]
    · refine opc_value fun a wq c => ⟨(wanted_plain rfl), .pointer (some ⟨b, off + 5 + 3, none⟩), ?_, rfl⟩
      have e_0 : a.eval (.tmp 30) = .pointer (some ⟨b, off + 5, none⟩) := (c.new 2 30 (by kernel_rfl) (by kernel_rfl))
      generalize a.eval = ρ at e_0 ⊢
      simp [execOp, e_0, go_sem]
    · refine opc_value fun a wq c => ⟨(wanted_plain rfl), .slice l1.A l1.kids.length l1.cap, ?_, rfl⟩
      have e_0 : a.eval (.tmp 31) = .pointer (some ⟨b, off + 5 + 3, none⟩) := (c.new 3 31 (by kernel_rfl) (by kernel_rfl))
      have hc := (KY1.out wq (but_w E1.out c.inv (Nat.le_succ _))).2.2.2.1
      generalize a.eval = ρ at e_0 ⊢
      simp [execOp, e_0, hc, go_sem]
    · refine opc_value fun a w c => ⟨(wanted_plain rfl), _, run_move _ rfl w, (c.was 0 (by kernel_rfl) rfl)⟩
    · refine opc_value fun a w c => ⟨(wanted_plain rfl), _, run_move _ rfl w, (c.was 5 (by kernel_rfl) rfl)⟩
    · refine opc_value fun a w c => ⟨(wanted_plain rfl), _, run_move _ rfl w, (c.was 6 (by kernel_rfl) rfl)⟩
    · refine opc_value fun a wq c => ⟨(wanted_plain rfl), .slice (some ⟨b, off + 10, none⟩) k1 (c1_ + 1), ?_, rfl⟩
      have e_0 : a.eval (.tmp 35) = .slice (some ⟨b, off + 5, none⟩) (k1 + 1 + 1) (c1_ + 1 + 1) := (c.new 7 35 (by kernel_rfl) (by kernel_rfl))
      have e_1 : a.eval (.tmp 36) = .int .i64 ((k1 : Int) + 2 - 1) := (c.new 8 36 (by kernel_rfl) (by kernel_rfl))
      have kc0 : a.eval (.const (.int .i64 1)) = .int .i64 1 := rfl
      generalize a.eval = ρ at e_0 e_1 kc0 ⊢
      simp [execOp, e_0, e_1, kc0, go_sem, t2, p1, p2, p3]
    · refine opc_value fun a w c => ⟨(wanted_plain rfl), _, run_move _ rfl w, (c.was 0 (by kernel_rfl) rfl)⟩
    · refine opc_value fun a w c => ⟨(wanted_plain rfl), _, run_move _ rfl w, (c.was 5 (by kernel_rfl) rfl)⟩
    · refine opc_value fun a w c => ⟨(wanted_plain rfl), _, run_move _ rfl w, (c.was 6 (by kernel_rfl) rfl)⟩
    · refine opc_value fun a wq c => ⟨(wanted_plain rfl), .slice (some ⟨b, off + 5 + (k1 + 1) * 5, none⟩) 1 (c1_ + 1 + 1 - (k1 + 1)), ?_, rfl⟩
      have e_0 : a.eval (.tmp 40) = .slice (some ⟨b, off + 5, none⟩) (k1 + 1 + 1) (c1_ + 1 + 1) := (c.new 12 40 (by kernel_rfl) (by kernel_rfl))
      have e_1 : a.eval (.tmp 41) = .int .i64 ((k1 : Int) + 2 - 1) := (c.new 13 41 (by kernel_rfl) (by kernel_rfl))
      generalize a.eval = ρ at e_0 e_1 ⊢
      simp [execOp, e_0, e_1, go_sem, t2, p1, p4, i5]
    · refine opc_value fun a wq c => ?_
      obtain ⟨N1_, eN1_, h1l, h1s⟩ := (c.got 5 33 (by kernel_rfl) (by kernel_rfl) rfl : NsF _ _ _ _)
      obtain ⟨G_, eG_, hGl, hGs⟩ := (c.got 10 38 (by kernel_rfl) (by kernel_rfl) rfl : AsF _ _ _ _)
      obtain ⟨Y_, eY_, hYl, hYs, hYq⟩ := (c.got 15 43 (by kernel_rfl) (by kernel_rfl) rfl : PsF _ _ _ _)
      refine ⟨(wanted_plain rfl), _, ?_, ⟨.mk 7 [] .nil .nil N1_ .nil G_ Y_.A Y_.cap Y_.l, rfl, by rw [PM.p_eq, ← h1l, ← hGl, ← hYl]; rfl, .mk (SleAt.nil ..) (fun _ h => by cases h) (SleAt.nil ..) h1s (SleAt.nil ..) hGs hYs hYq⟩⟩
      have kc0 : a.eval (.const (.int .i64 7)) = .int .i64 7 := rfl
      generalize a.eval = ρ at eN1_ eG_ eY_ kc0 ⊢
      simp [execOp, eN1_, eG_, eY_, kc0, go_sem, PM.kind, PM.name, PM.ex, PM.co, PM.lf, PM.rt, PM.ag, PM.A, PM.cap, PM.kids, Sle.nil]
  · refine trn_cons 0 rfl ?_ (trn_cons 1 rfl ?_ (trn_cons 2 rfl ?_ (trn_cons 3 rfl ?_ (trn_nil 4))))
    · refine opt_call fun a wq c st => ⟨wanted_plain rfl, 57, #[.pointer (some ⟨gr, 0, none⟩), .slice l1.A l1.kids.length l1.cap], ?_, ?_⟩
      · rw [run_call 57 _ _ rfl (by kernel_rfl)]
        have e_0 : a.eval (.tmp 28) = .pointer (some ⟨gr, 0, none⟩) := (c.new 0 28 (by kernel_rfl) (by kernel_rfl))
        have e_1 : a.eval (.tmp 32) = .slice l1.A l1.kids.length l1.cap := (c.new 4 32 (by kernel_rfl) (by kernel_rfl))
        simp [e_0, e_1]
      · have hbw := but_w E1.out c.inv (Nat.le_succ _)
        have hsz := c.inv.size
        refine (rd_names gr _ l1.kids _ _ _ b0 wq st.1 (kids_ms (HPA.out.lies l1 (by simp) wq hbw)).1 (kids_ms (HPA.out.lies l1 (by simp) wq hbw)).2 (kids_len (HQS.out l1 (by simp)).2)).mono ?_
        rintro r wp ⟨X_, rfl, hXl, hXs, hRO⟩
        exact ⟨_, rfl, but_r hRO.but, c.inv.then (but_r hRO.but), st_call (E := e) st hRO rfl (by simp) hg4, ⟨X_, rfl, hXl, hXs.low hsz⟩⟩
    · refine opt_call fun a wq c st => ⟨wanted_plain rfl, 58, #[.pointer (some ⟨gr, 0, none⟩), .slice (some ⟨b, off + 10, none⟩) k1 (c1_ + 1)], ?_, ?_⟩
      · rw [run_call 58 _ _ rfl (by kernel_rfl)]
        have e_0 : a.eval (.tmp 34) = .pointer (some ⟨gr, 0, none⟩) := (c.new 6 34 (by kernel_rfl) (by kernel_rfl))
        have e_1 : a.eval (.tmp 37) = .slice (some ⟨b, off + 10, none⟩) k1 (c1_ + 1) := (c.new 9 37 (by kernel_rfl) (by kernel_rfl))
        simp [e_0, e_1]
      · have hbw := but_w E1.out c.inv (Nat.le_succ _)
        have hsz := c.inv.size
        refine (HAG.out _ wq hbw st.1).mono ?_
        rintro r wp ⟨X_, rfl, hXl, hXs, hRO⟩
        exact ⟨_, rfl, but_r hRO.but, c.inv.then (but_r hRO.but), st_call (E := e) st hRO rfl (by simp) hg4, ⟨X_, rfl, hXl, hXs.low hsz⟩⟩
    · refine opt_call fun a wq c st => ⟨wanted_plain rfl, 55, #[.pointer (some ⟨gr, 0, none⟩), .slice (some ⟨b, off + 5 + (k1 + 1) * 5, none⟩) 1 (c1_ + 1 + 1 - (k1 + 1))], ?_, ?_⟩
      · rw [run_call 55 _ _ rfl (by kernel_rfl)]
        have e_0 : a.eval (.tmp 39) = .pointer (some ⟨gr, 0, none⟩) := (c.new 11 39 (by kernel_rfl) (by kernel_rfl))
        have e_1 : a.eval (.tmp 42) = .slice (some ⟨b, off + 5 + (k1 + 1) * 5, none⟩) 1 (c1_ + 1 + 1 - (k1 + 1)) := (c.new 14 42 (by kernel_rfl) (by kernel_rfl))
        simp [e_0, e_1]
      · have hbw := but_w E1.out c.inv (Nat.le_succ _)
        have hsz := c.inv.size
        refine (HPS.out _ wq hbw st.1).mono ?_
        rintro r wp ⟨X_, rfl, hXl, hXs, hXq, hRO⟩
        exact ⟨_, rfl, but_r hRO.but, c.inv.then (but_r hRO.but), st_call (E := e) st hRO rfl (by simp) hg4, ⟨X_, rfl, hXl, hXs.low hsz, fun k_ hk_ => (hXq k_ hk_).low hsz⟩⟩
    · refine opt_store rfl fun a wq c st => ?_
      obtain ⟨m_, em_, hm_, hq_⟩ := (c.got 16 44 (by kernel_rfl) (by kernel_rfl) rfl : PmF _ _ _ _)
      have e4 : a.eval (.tmp 4) = .pointer (some ⟨w.heap.size + 1, 0, none⟩) := (c.was 4 (by kernel_rfl) rfl)
      have hbx : Bx 27 (w.heap.size + 1) #[.int .i64 0, .string ⟨#[]⟩, .slice none 0 0, .slice none 0 0, .slice none 0 0, .slice none 0 0, .slice none 0 0, .slice none 0 0] wq := st.2
      obtain ⟨⟨r0, r1, r2, r3, r4, r5, r6, r7⟩, s0, s1, s2, s3, s4, s5, s6, s7⟩ := hbx.eight
      refine ⟨wanted_plain rfl, set8 (w.heap.size + 1) (.int .i64 m_.kind) (.string ⟨m_.name.toArray⟩) (.slice m_.ex.A m_.ex.l.length m_.ex.cap) (.slice m_.co.A m_.co.l.length m_.co.cap) (.slice m_.lf.A m_.lf.l.length m_.lf.cap) (.slice m_.rt.A m_.rt.l.length m_.rt.cap) (.slice m_.ag.A m_.ag.l.length m_.ag.cap) (.slice m_.A m_.kids.length m_.cap) wq, ?_, but_4 (set8_but _ _ _ _ _ _ _ _ _ _), c.inv.then (but_4 (set8_but _ _ _ _ _ _ _ _ _ _)), ⟨st.1.but (set8_but _ _ _ _ _ _ _ _ _ _) (by simp; omega), ⟨m_, hbx.set8 _ _ _ _ _ _ _ _, hm_, qx_old hq_ (set8_but _ _ _ _ _ _ _ _ _ _) (fun y hy => by simp at hy; omega)⟩⟩, trivial⟩
      generalize a.eval = ρ at em_ e4 ⊢
      simp [execOp, em_, e4, go_sem, r0, r1, r2, r3, r4, r5, r6, r7, s0, s1, s2, s3, s4, s5, s6, s7, set8, set5, set4]
  intro sl w9 hI hold hnew hst
  have f0 : sl 0 = .pointer (some ⟨gr, 0, none⟩) := hold 0 (by kernel_rfl)
  have f4 : sl 4 = .pointer (some ⟨w.heap.size + 1, 0, none⟩) := hold 4 (by kernel_rfl)
  have f5 : sl 5 = .slice (some ⟨b, off + 5, none⟩) (k1 + 1 + 1) (c1_ + 1 + 1) := hold 5 (by kernel_rfl)
  have f6 : sl 6 = .int .i64 ((k1 : Int) + 2 - 1) := hold 6 (by kernel_rfl)
  have f28 : sl 28 = .pointer (some ⟨gr, 0, none⟩) := hnew 0 28 (by kernel_rfl)
  have f29 : sl 29 = .slice (some ⟨b, off + 5, none⟩) (k1 + 1 + 1) (c1_ + 1 + 1) := hnew 1 29 (by kernel_rfl)
  have f30 : sl 30 = .pointer (some ⟨b, off + 5, none⟩) := hnew 2 30 (by kernel_rfl)
  have f31 : sl 31 = .pointer (some ⟨b, off + 5 + 3, none⟩) := hnew 3 31 (by kernel_rfl)
  have f32 : sl 32 = .slice l1.A l1.kids.length l1.cap := hnew 4 32 (by kernel_rfl)
  have f34 : sl 34 = .pointer (some ⟨gr, 0, none⟩) := hnew 6 34 (by kernel_rfl)
  have f35 : sl 35 = .slice (some ⟨b, off + 5, none⟩) (k1 + 1 + 1) (c1_ + 1 + 1) := hnew 7 35 (by kernel_rfl)
  have f36 : sl 36 = .int .i64 ((k1 : Int) + 2 - 1) := hnew 8 36 (by kernel_rfl)
  have f37 : sl 37 = .slice (some ⟨b, off + 10, none⟩) k1 (c1_ + 1) := hnew 9 37 (by kernel_rfl)
  have f39 : sl 39 = .pointer (some ⟨gr, 0, none⟩) := hnew 11 39 (by kernel_rfl)
  have f40 : sl 40 = .slice (some ⟨b, off + 5, none⟩) (k1 + 1 + 1) (c1_ + 1 + 1) := hnew 12 40 (by kernel_rfl)
  have f41 : sl 41 = .int .i64 ((k1 : Int) + 2 - 1) := hnew 13 41 (by kernel_rfl)
  have f42 : sl 42 = .slice (some ⟨b, off + 5 + (k1 + 1) * 5, none⟩) 1 (c1_ + 1 + 1 - (k1 + 1)) := hnew 14 42 (by kernel_rfl)
  change Exit.then _ _ .normal ⟨#[sl 0, sl 1, sl 2, sl 3, sl 4, sl 5, sl 6, sl 7, sl 8, sl 9, sl 10, sl 11, sl 12, sl 13, sl 14, sl 15, sl 16, sl 17, sl 18, sl 19, sl 20, sl 21, sl 22, sl 23, sl 24, sl 25, sl 26, sl 27, sl 28, sl 29, sl 30, sl 31, sl 32, sl 33, sl 34, sl 35, sl 36, sl 37, sl 38, sl 39, sl 40, sl 41, sl 42, sl 43, sl 44, sl 45, sl 46, sl 47, sl 48, sl 49, sl 50, sl 51, sl 52, sl 53, sl 54, sl 55, sl 56, sl 57, sl 58, sl 59, sl 60, sl 61, sl 62, sl 63, sl 64, sl 65, sl 66, sl 67, sl 68, sl 69, sl 70, sl 71, sl 72, sl 73, sl 74, sl 75, sl 76, sl 77, sl 78, sl 79, sl 80, sl 81, sl 82, sl 83, sl 84, sl 85, sl 86, sl 87, sl 88, sl 89, sl 90, sl 91, sl 92, sl 93, sl 94, sl 95, sl 96, sl 97, sl 98, sl 99, sl 100, sl 101, sl 102, sl 103, sl 104, sl 105, sl 106, sl 107, sl 108, sl 109, sl 110, sl 111, sl 112, sl 113, sl 114], _⟩ _
  simp only [f0, f4, f5, f6, f28, f29, f30, f31, f32, f34, f35, f36, f37, f39, f40, f41, f42]
  clear hold hnew
  obtain ⟨hrb, m_, hbx, hm_, hq_⟩ := (⟨hst.1, hst.2⟩ : _ ∧ PmB _ _ _ _)
  go_wp2
  (try simp only [Exit.inBlock, Exit.then])
  refine bodyPost_ret (results_cell1 rfl _ _ _ _ _ rfl hbx Tryz.underlying27 rfl Tryz.sizePlan) rfl ?_
  exact ⟨m_, rfl, by rw [hm_]; exact HPP.out.symm, hq_.low (by have := E1.out.size; omega), ⟨by rw [HPE.out, ← firsts_append, ← firsts_append]; exact hrb, but_w E1.out hI (Nat.le_succ _)⟩⟩

end Go.Proofs.YtojbahjebfcmgaaGreatDoor

namespace Go.Proofs.YtojbahjebfcmgaaGreatDoor
open Go.RowKit
set_option linter.unusedVariables false

theorem pkind_cases {s : By} (h : pKind s ≠ 0) : s = bTable ∨ s = bFilter ∨ s = bProject ∨ s = bJoin ∨ s = bUnion ∨ s = bDistinct ∨ s = bGroup := by
  unfold pKind at h
  repeat' (split at h)
  all_goals simp_all
set_option maxRecDepth 100000 in
set_option maxHeartbeats 4000000 in
theorem rd_planNone (m : M) (gr : Nat) (e : Er) (b0 : Nat) (w : World) (hB : Rb gr e w) (hL : Lies b0 [gr] w m) (hf : pForm m.t = false) :
    Calls Tryz.prog 27 #[.pointer (some ⟨gr, 0, none⟩), .agg #[.int .i64 m.kind, .string ⟨m.s.toArray⟩, .int .i64 m.n, .slice m.A m.kids.length m.cap, .int .i64 (m.pos : Int)]] w (RdPl gr e m.t w) := by
  have hpp : pPlan m.t = pZero := by
    rw [M.t_eq] at hf ⊢
    rw [pPlan, if_neg (by rw [hf]; exact Bool.false_ne_true)]
  have hpe : pErr m.t = (12, m.pos) := by
    rw [M.t_eq] at hf ⊢
    rw [pErr, if_neg (by rw [hf]; exact Bool.false_ne_true)]
  have hgr := hB.lt
  have hHF := fun w1 (hE : Ev w w1) => pl_hasForm m b0 w1 ((hL.ev hE).less fun k hk => by cases hk)
  rw [hf] at hHF
  unfold RdPl
  rw [hpp, hpe]
  obtain ⟨w0, hw0, hE0, hX, hR, hs0⟩ := bx_twoP w (.int .i64 m.kind) (.string ⟨m.s.toArray⟩) (.int .i64 m.n) (.slice m.A m.kids.length m.cap) (.int .i64 (m.pos : Int))
  have HHF := Lib.hid hHF
  have HX := Lib.hid hX
  have HR := Lib.hid hR
  have HE := Lib.hid hE0
  have HB := Lib.hid hB
  have HF := Lib.hid (fun w1 (hE : Ev w w1) => rd_fail gr e 12 m.pos (by decide) w1 (HB.out.ev hE))
  obtain ⟨⟨c0, c1, c2, c3, c4⟩, _⟩ := hX.five
  clear hX hR hE0 hB hHF hL hf hpp hpe
  go_enter Tryz.func27, Tryz.ntmps27
  go_wp2_with (first
    | ((with_reducible refine (HHF.out _ HE.out).mono ?_); rintro r w1 ⟨rfl, hE1⟩; have E1 := Lib.hid (HE.out.trans hE1); clear c0 c1 c2 c3 c4; obtain ⟨⟨c0, c1, c2, c3, c4⟩, _⟩ := (HX.out.ev hE1).five)
    | ((with_reducible refine (HF.out _ E1.out).mono ?_); rintro r w2 ⟨rfl, hRO⟩; have HRO := Lib.hid hRO; obtain ⟨⟨r0, r1, r2, r3, r4, r5, r6, r7⟩, s0, s1, s2, s3, s4, s5, s6, s7⟩ := ((HR.out.ev hE1).but hRO.but (by simp; omega)).eight; clear hRO))
  (try simp only [Exit.inBlock, Exit.then])
  rw [set8_fold]
  have hBR := (HR.out.ev hE1).but HRO.out.but (by simp; omega)
  refine bodyPost_ret (results_cell1 rfl _ _ _ _ _ rfl (hBR.set8 _ _ _ _ _ _ _ _) Tryz.underlying27 rfl Tryz.sizePlan) rfl ?_
  obtain ⟨f1, f2⟩ := rd_done (base := w.heap.size + 2) (⟨HRO.out.bx, (But.of_ev E1.out).then HRO.out.but⟩) hgr (Nat.le_refl _) (Qx.zero _ _ _) _ _ _ _ _ _ _ _
  exact ⟨pmZero, rfl, pmZero_p, f1, f2⟩

theorem rd_plan (N : Nat) : ∀ (m : M) (gr : Nat) (e : Er) (b0 : Nat) (w : World), m.dep ≤ N → Rb gr e w → Lies b0 [gr] w m → m.t.every fairB = true → m.t.size ≤ 10000 →
    Calls Tryz.prog 27 #[.pointer (some ⟨gr, 0, none⟩), .agg #[.int .i64 m.kind, .string ⟨m.s.toArray⟩, .int .i64 m.n, .slice m.A m.kids.length m.cap, .int .i64 (m.pos : Int)]] w (RdPl gr e m.t w) := by
  induction N with
  | zero =>
    intro m gr e b0 w hd
    rw [M.dep_eq] at hd
    omega
  | succ N ih =>
    intro m gr e b0 w hd hB hL hfair hsz
    cases hf : pForm m.t
    · exact rd_planNone m gr e b0 w hB hL hf
    · obtain ⟨x, q, hq⟩ : ∃ x q, m.kids = x :: q := by
        cases hk : m.kids with
        | nil =>
          rw [form_m, hk] at hf
          simp at hf
        | cons x q => exact ⟨x, q, rfl⟩
      have hih : ∀ y ∈ q, ∀ w1 e1, But [gr] w w1 → Rb gr e1 w1 → Calls Tryz.prog 27 #[.pointer (some ⟨gr, 0, none⟩), .agg #[.int .i64 y.kind, .string ⟨y.s.toArray⟩, .int .i64 y.n, .slice y.A y.kids.length y.cap, .int .i64 (y.pos : Int)]] w1 (RdPl gr e1 y.t w1) := fun y hy w1 e1 hb hB1 => by
        have hym : y ∈ m.kids := by rw [hq]; exact List.mem_cons_of_mem _ hy
        have hqs := q_size hq hy hfair hsz
        exact ih y gr e1 b0 w1 (by have := M.kid_dep hym; omega) hB1 ((hL.kid y hym).move hb fun _ hz => .inl hz) hqs.1 hqs.2
      have hk : pKind x.s ≠ 0 := fun h0 => by
        have := (plan_m hq hf).2.2.1
        rw [h0] at this
        cases this
      rcases pkind_cases hk with hs | hs | hs | hs | hs | hs | hs
      · exact rd_planTable m gr e b0 w hB hL hfair hsz hf x q hq hs hih
      · exact rd_planFilter m gr e b0 w hB hL hfair hsz hf x q hq hs hih
      · exact rd_planProject m gr e b0 w hB hL hfair hsz hf x q hq hs hih
      · exact rd_planJoin m gr e b0 w hB hL hfair hsz hf x q hq hs hih
      · exact rd_planUnion m gr e b0 w hB hL hfair hsz hf x q hq hs hih
      · exact rd_planDistinct m gr e b0 w hB hL hfair hsz hf x q hq hs hih
      · exact rd_planGroup m gr e b0 w hB hL hfair hsz hf x q hq hs hih
end Go.Proofs.YtojbahjebfcmgaaGreatDoor
