/-
  Texts that belong together: Package expr: evaluate, Eval. Package expr: Eval.
-/
import Derived.Test.YtgiofdmedhhobaaZ15N
import Derived.Test.YtgiofdmedhhobaaZ0N
import Derived.Test.YtgiofdmedhhobaaZ14N
namespace Go.Proofs.Ytgiofdmedhhobaa
open Go.RowKit
set_option linter.unusedVariables false

theorem encV : Enc 3 vcells := ⟨by omega, fun _ => rfl, fun x u hu => by
  simp [vcells] at hu
  rcases hu with rfl | rfl | rfl <;> rfl⟩
theorem Try.infoValue : (Try.prog.info? 25).map (fun i => (i.zero, i.size, i.bytes)) = some (some (.agg #[.int .i64 0, .int .i64 0, .string ⟨#[]⟩]), 3, 32) := by kernel_rfl
theorem xEval_eq (cols : List C) (r : List V) (m : M) : xEval cols r m.t = if m.kind == 1 then (match findC cols (bstr m.s) with | none => (v0, 0) | some i => (r.getD i v0, 0))
    else if m.kind == 2 then (vNum m.n, 0) else if m.kind == 3 then (vStr (bstr m.s), 0) else if m.s == bIf then xChoose (m.kids.map fun x => xEval cols r x.t) else xEvalsGo m.s [] (m.kids.map fun x => xEval cols r x.t) := by
  rw [M.t_eq, xEval, xEvals_map, List.map_map]
  rfl
theorem takes_12 {s : By} (h : xTakes s ≠ 0) (hi : (s == bIf) = false) : (xTwo s || xOne s) = true ∧ (xTakes s = 1 ∨ xTakes s = 2) := by
  unfold xTakes at *
  cases h2 : xTwo s
  · cases h1 : xOne s
    · rw [h2, h1, hi] at h
      exact absurd rfl h
    · exact ⟨rfl, .inl rfl⟩
  · exact ⟨rfl, .inr rfl⟩
theorem wp_of_value {P : Program} {Q : Exit → Act → World → Prop} {o : Oper} {a : Act} {w w' : World} {v : Value} {K : Act → World → Prop} (h : (execOp a.eval o).run P w = .ok (.value v) w') (hk : K (a.put o.dst v) w') : Oper.wp P o a w K Q := by
  unfold Oper.wp
  rw [h]
  exact hk
theorem opsb_nil2 {R : Nat → Oper → Prop} {m : Nat} (k : Nat) (o0 o1 : Oper) (hk : m ≤ k) : ∀ i o, ([o0, o1].toArray)[i]? = some o → k + i < m → R (k + i) o := by
  intro i o _ h
  omega
/-- In the midst of the operands. -/
structure VSt (w0 : World) (v : Value) (vs : List V) (w : World) : Prop where
  own : Ow 25 3 vcells w0.heap.size w v vs
  ev : Ev w0 w
  fair : ∀ x ∈ vs, fairV x

set_option maxRecDepth 100000 in
set_option maxHeartbeats 8000000 in
theorem ex_evaluate (N : Nat) : ∀ (m : M) (b0 : Nat) (w : World) (A : Option Addr) (n cap : Nat) (cols : List C) (B : Option Addr) (n2 cap2 : Nat) (r : List V), m.dep ≤ N → Lx b0 [] w m → Cs w A n cap cols → Vs w B n2 cap2 r → xRight m.t = true → (xKind cols m.t).2 = 0 → fitsL cols r = true → (∀ x ∈ r, fairV x) → m.t.every fairB = true →
    Calls Try.prog 35 #[ev_ m, .slice A n cap, .slice B n2 cap2] w (VOut (xEval cols r m.t) w) := by
  have hmix : Try.prog.follows .mixedOrders = true := by kernel_rfl
  induction N with
  | zero =>
    intro m b0 w A n cap cols B n2 cap2 r hd
    rw [M.dep_eq] at hd
    omega
  | succ N ih =>
    intro m b0 w A n cap cols B n2 cap2 r hd hL hC hV hr hty hfit hfr hfm
    obtain ⟨hf, hkr⟩ := xRight_p hr
    have hke := xEval_eq cols r m
    have hkk := xKind_eq cols m
    have hfm2 := hfm
    rw [T.every_eq, Bool.and_eq_true] at hfm2
    obtain ⟨hfm3, hfm4⟩ := hfm2
    unfold fairB at hfm3
    simp only [Bool.and_eq_true, decide_eq_true_iff, M.t_n, M.t_s] at hfm3
    have hfk : ∀ x ∈ m.kids, x.t.every fairB = true := fun x hx => List.all_eq_true.1 hfm4 x.t (by rw [M.t_kids]; exact List.mem_map.2 ⟨x, hx, rfl⟩)
    have hes := hL.es
    have HIH := Lib.hid ih
    have HL := Lib.hid hL
    have HC := Lib.hid hC
    have HV := Lib.hid hV
    have HKR := Lib.hid hkr
    have HD := Lib.hid hd
    have HFK := Lib.hid hfk
    have HFR := Lib.hid hfr
    have HFIT := Lib.hid hfit
    obtain ⟨kn, hkn⟩ : ∃ kn, kn = m.kids.length := ⟨_, rfl⟩
    unfold ev_
    unfold M.kv
    rw [← hkn] at hf hes ⊢
    generalize m.A = mA at *
    generalize m.cap = mcap at *
    have HKN := Lib.hid hkn
    have hE0 := (Ev.alloc w (.cells #[.int .i64 m.kind, .string ⟨m.s.toArray⟩, .int .i64 m.n, .slice mA kn mcap] 39)).trans (Ev.alloc _ (.cells #[.int .i64 0, .int .i64 0, .string ⟨#[]⟩] 25))
    have hX := (Bx.new 39 #[.int .i64 m.kind, .string ⟨m.s.toArray⟩, .int .i64 m.n, .slice mA kn mcap] w).ev (Ev.alloc _ (.cells #[.int .i64 0, .int .i64 0, .string ⟨#[]⟩] 25))
    have hB : Bx 25 (w.heap.size + 1) #[.int .i64 0, .int .i64 0, .string ⟨#[]⟩] ((w.alloc (.cells #[.int .i64 m.kind, .string ⟨m.s.toArray⟩, .int .i64 m.n, .slice mA kn mcap] 39)).alloc (.cells #[.int .i64 0, .int .i64 0, .string ⟨#[]⟩] 25)) := by
      have := vbox (w.alloc (.cells #[.int .i64 m.kind, .string ⟨m.s.toArray⟩, .int .i64 m.n, .slice mA kn mcap] 39))
      simpa using this
    obtain ⟨w0, hw0⟩ : ∃ w0, (w.alloc (.cells #[.int .i64 m.kind, .string ⟨m.s.toArray⟩, .int .i64 m.n, .slice mA kn mcap] 39)).alloc (.cells #[.int .i64 0, .int .i64 0, .string ⟨#[]⟩] 25) = w0 := ⟨_, rfl⟩
    rw [hw0] at hE0 hX hB
    have HE := Lib.hid hE0
    have HX := Lib.hid hX
    have HB := Lib.hid hB
    obtain ⟨⟨c0, c1, c2, c3⟩, _⟩ := hX.four
    clear ih hL hC hV hr hkr hd hkn hE0 hB hX hfr hfk hfm hfm4 hfit
    rcases xright_kind hf with hk | hk | hk | ⟨hk, hn1, hn2⟩
    · rw [hk] at hke hkk hw0 c0 ⊢
      simp only [beq_self_eq_true, if_true] at hke hkk
      have HF := fun w1 (hE : Ev w w1) => row_find (bstr m.s) w1 (HC.out.ev hE)
      unfold bstr at HF hke hkk
      cases hfc : findC cols ⟨m.s.toArray⟩ with
      | none =>
        rw [hfc] at hkk
        rw [hkk] at hty
        cases hty
      | some i =>
        rw [hfc] at hke HF
        have hil := findC_lt hfc
        rw [fitsL_len cols r HFIT.out, HV.out.len] at hil
        obtain ⟨b, off, x, rfl, hb, hx, d0, d1, d2⟩ := HV.out.vcell hil
        have hx2 : r.getD i v0 = x := by simp [List.getD, hx]
        simp only [hx2] at hke
        have HK := Lib.hid hke
        have HF := Lib.hid HF
        have HD1 := Lib.hid (fun w1 (hE : Ev w w1) => And.intro ((hE.cell (p := ⟨b, off + i * 3, none⟩) hb).trans d0) (And.intro ((hE.cell (p := ⟨b, off + i * 3 + 1, none⟩) hb).trans d1) ((hE.cell (p := ⟨b, off + i * 3 + 2, none⟩) hb).trans d2)))
        have i1 : (0 : Int) ≤ (i : Int) := by omega
        have i2 : (i : Int) < (n2 : Int) := by omega
        clear hke hkk hty hfc hx hx2 d0 d1 d2
        go_enter Try.func35, Try.ntmps35
        go_wp2_with (first | ((with_reducible refine (HF.out _ HE.out).mono ?_); rintro e w1 ⟨rfl, hE1⟩; simp only [foundAt, Option.isSome_some]; obtain ⟨d0, d1, d2⟩ := HD1.out _ (HE.out.trans hE1); have B1 := HB.out.ev hE1; have E1 := HE.out.trans hE1; obtain ⟨⟨c0, c1, c2⟩, f0, f1, f2⟩ := B1.three))
        (try simp only [Exit.inBlock, Exit.then])
        rw [set3_fold]
        refine bodyPost_ret (results_cellt rfl _ _ _ _ _ rfl (B1.set3 _ _ _) Try.underlying25 rfl Try.sizeVal) rfl ?_
        exact ⟨by rw [HK.out]; rfl, E1.box (set3_but _ _ _ _ _) (by omega)⟩
    · rw [hk] at hke hw0 c0 ⊢
      have HK : Hid (xEval cols r m.t = (vNum m.n, 0)) := Lib.hid (by rw [hke]; rfl)
      have HN := Lib.hid (fun w1 => value_num m.n w1)
      clear hke hkk hty
      go_enter Try.func35, Try.ntmps35
      go_wp2_with (first | ((with_reducible refine (HN.out _).mono ?_); rintro e w1 ⟨rfl, hE1⟩; have B1 := HB.out.ev hE1; have E1 := HE.out.trans hE1; obtain ⟨⟨c0, c1, c2⟩, f0, f1, f2⟩ := B1.three))
      (try simp only [Exit.inBlock, Exit.then])
      rw [set3_fold]
      refine bodyPost_ret (results_cellt rfl _ _ _ _ _ rfl (B1.set3 _ _ _) Try.underlying25 rfl Try.sizeVal) rfl ?_
      exact ⟨by rw [HK.out]; rfl, E1.box (set3_but _ _ _ _ _) (by omega)⟩
    · rw [hk] at hke hw0 c0 ⊢
      have HK : Hid (xEval cols r m.t = (vStr ⟨m.s.toArray⟩, 0)) := Lib.hid (by rw [hke]; rfl)
      have HN := Lib.hid (fun w1 => value_str ⟨m.s.toArray⟩ w1)
      clear hke hkk hty
      go_enter Try.func35, Try.ntmps35
      go_wp2_with (first | ((with_reducible refine (HN.out _).mono ?_); rintro e w1 ⟨rfl, hE1⟩; have B1 := HB.out.ev hE1; have E1 := HE.out.trans hE1; obtain ⟨⟨c0, c1, c2⟩, f0, f1, f2⟩ := B1.three))
      (try simp only [Exit.inBlock, Exit.then])
      rw [set3_fold]
      refine bodyPost_ret (results_cellt rfl _ _ _ _ _ rfl (B1.set3 _ _ _) Try.underlying25 rfl Try.sizeVal) rfl ?_
      exact ⟨by rw [HK.out]; rfl, E1.box (set3_but _ _ _ _ _) (by omega)⟩
    · rw [hk] at hke hkk hw0 c0 ⊢
      have hkt : ∀ x ∈ m.kids, (xKind cols x.t).2 = 0 := by
        intro x hx
        have hty2 : (xKindsGo m.s [] (m.kids.map fun x => xKind cols x.t)).2 = 0 := by rw [hkk] at hty; exact hty
        exact xKindsGo_ok _ _ _ hty2 _ (List.mem_map.2 ⟨x, hx, rfl⟩)
      have HKT := Lib.hid hkt
      have HES := Lib.hid hes
      have HN1 := Lib.hid hn1
      have HN2 := Lib.hid hn2
      have hkc := hes.le
      have hkm := hes.max
      have hkb : kn ≤ 3 := by rw [hn1]; unfold xTakes; split <;> (try split) <;> (try split) <;> omega
      have HX1 := HX.out
      rw [hk] at HX1
      have HX1 := Lib.hid HX1
      have HEV : Hid (∀ x ∈ m.kids, EvAt A n cap cols B n2 cap2 r w x) := Lib.hid fun x hx w1 hE => HIH.out x b0 w1 A n cap cols B n2 cap2 r (by have := M.kid_dep hx; have := HD.out; omega) ((HL.out.kid x hx).ev hE) (HC.out.ev hE) (HV.out.ev hE) (HKR.out x hx) (HKT.out x hx) HFIT.out HFR.out (HFK.out x hx)
      obtain ⟨R, hR⟩ : ∃ R, R = xEval cols r m.t := ⟨_, rfl⟩
      rw [← hR] at hke ⊢
      cases hif : (m.s == bIf) with
      | true =>
        rw [hif] at hke
        have hms : (m.s == [105, 102]) = true := hif
        have hk3 : kn = 3 := by rw [hn1, beq_iff_eq.1 hif]; rfl
        obtain ⟨xa, xb, xc, hkids⟩ := three_of (by rw [← HKN.out, hk3] : m.kids.length = 3)
        subst hk3
        have HK : Hid (R = xChoose [xEval cols r xa.t, xEval cols r xb.t, xEval cols r xc.t]) := Lib.hid (by rw [hke, hkids]; rfl)
        have HCH := fun w1 (hE : Ev w w1) => ex_choose w1 xa xb xc (hkids ▸ HES.out.ev hE) (fun w2 h2 => HEV.out xa (by rw [hkids]; simp) w2 (hE.trans h2)) (fun w2 h2 => HEV.out xb (by rw [hkids]; simp) w2 (hE.trans h2)) (fun w2 h2 => HEV.out xc (by rw [hkids]; simp) w2 (hE.trans h2))
        rw [← HK.out] at HCH
        obtain ⟨⟨rk, rn, rs⟩, ry⟩ := R
        have HCH := Lib.hid HCH
        clear hke hkk hty hR hn1 hn2 hes hk hf hkids hkt hif HK
        go_enter Try.func35, Try.ntmps35
        go_wp2_with (first | ((with_reducible refine (HCH.out _ HE.out).mono ?_); rintro e w1 ⟨rfl, hE1⟩; have B1 := HB.out.ev hE1; have E1 := HE.out.trans hE1; obtain ⟨⟨c0, c1, c2⟩, f0, f1, f2⟩ := B1.three))
        (try simp only [Exit.inBlock, Exit.then])
        rw [set3_fold]
        refine bodyPost_ret (results_cellt rfl _ _ _ _ _ rfl (B1.set3 _ _ _) Try.underlying25 rfl Try.sizeVal) rfl ?_
        exact ⟨rfl, E1.box (set3_but _ _ _ _ _) (by omega)⟩
      | false =>
        rw [hif] at hke
        have hms : (m.s == [105, 102]) = false := hif
        have HK : Hid (R = xEvalsGo m.s [] ((m.kids.drop 0).map fun x => xEval cols r x.t)) := Lib.hid (by rw [hke]; rfl)
        have HIF := Lib.hid hif
        clear hke hkk hty hR hn1 hn2 hes hk hf hkt hif
        go_enter Try.func35, Try.ntmps35
        go_wp2
        go_loopw [10, 53] (fun kv iv wr => ∃ (A1 : Option Addr) (n1 cap1 j : Nat) (vs : List V), kv = .slice A1 n1 cap1 ∧ iv = .int .i64 (j : Int) ∧ j ≤ kn ∧ Hid (n1 = j ∧ vs.length = j) ∧ Hid (VSt w0 (.slice A1 n1 cap1) vs wr) ∧ Hid (R = xEvalsGo m.s vs ((m.kids.drop j).map fun x => xEval cols r x.t))) (fun _ iv _ => kn - (intOf iv).toNat)
        case atStart => exact ⟨none, 0, 0, 0, [], rfl, rfl, Nat.zero_le _, Lib.hid ⟨rfl, rfl⟩, Lib.hid ⟨Ow.nil_ _, Ev.refl _, fun x hx => by cases hx⟩, HK⟩
        case round =>
          obtain ⟨A1, n1, cap1, j, vs, rfl, rfl, hj, HN, HS, HR⟩ := hrel
          obtain ⟨⟨c0, c1, c2, c3⟩, _⟩ := (HX1.out.ev HS.out.ev).four
          have HEW := Lib.hid (HE.out.trans HS.out.ev)
          by_cases hlt : j < kn
          · obtain ⟨x, hx⟩ := HES.out.at hlt
            obtain ⟨b, off, rfl, hb, x0, x1, x2, x3⟩ := Es.cell (HES.out.ev HEW.out) hx
            have hxm := List.mem_of_getElem? hx
            have hdj : m.kids.drop j = x :: m.kids.drop (j + 1) := by
              obtain ⟨hj', e⟩ := List.getElem?_eq_some_iff.1 hx
              rw [List.drop_eq_getElem_cons hj', e]
            have HR1 := HR.out
            rw [hdj, List.map_cons] at HR1
            unfold xEvalsGo at HR1
            have HI := HEV.out x hxm
            have hfx := xEval_fair cols r HFR.out x.t (HFK.out x hxm)
            unfold EvAt at HI
            generalize xEval cols r x.t = rx at *
            obtain ⟨⟨rk, rn, rs⟩, ry⟩ := rx
            simp only at HR1 hfx
            unfold ev_ M.kv at HI
            unfold M.kv at x3
            have HI := Lib.hid HI
            have HFX := Lib.hid hfx
            have i1 : (0 : Int) ≤ (j : Int) := by omega
            have i2 : (j : Int) < (kn : Int) := by omega
            obtain ⟨hn1, hks⟩ := HN.out
            subst hn1
            have HKS := Lib.hid hks
            clear hx hxm hdj hks HN hfx
            by_cases hw : ry = 0
            · subst hw
              simp only [beq_self_eq_true, if_true] at HR1
              have HR2 := Lib.hid HR1
              clear HR1
              go_wp2_with (first
                | ((with_reducible refine (HI.out _ (HEW.out.trans (Ev.alloc wr _))).mono ?_); rintro e w1 ⟨rfl, hE1⟩; have E1 := Lib.hid ((Ev.alloc wr _).trans hE1))
                | ((show wpList _ _ _ (⟨some 71, _, _, _, _, _⟩ :: _) _ _); refine wpList_append_ow (o := ⟨some 71, _, _, _, _, _⟩) rfl 28 (.tmp 68) (.tmp 70) rfl encV Try.underlying28 Try.infoValue rfl rfl (HS.out.own.ev (E1.out.trans ((Ev.alloc w1 _).trans (Ev.alloc _ _)))) (some ⟨w1.heap.size + 1, 0, none⟩) 1 1 [(rk, rn, rs)] rfl (by have := Sl.one (et := 25) encV (w1.alloc (.cells #[.int .i64 rk, .int .i64 rn, .string rs] 25)) (rk, rn, rs) #[.int .i64 rk, .int .i64 rn, .string rs] rfl; simpa using this) (by rw [HKS.out]; simp; omega) (by rw [HKS.out]; simp; omega) ((HS.out.ev.trans E1.out).trans ((Ev.alloc w1 _).trans (Ev.alloc _ _))).size ?_; intro v2 w2 hA2; have E2 : Ev w0 w2 := ((But.of_ev ((HS.out.ev.trans E1.out).trans ((Ev.alloc w1 _).trans (Ev.alloc _ _)))).then hA2.2.1).ev (fun k hk => (HS.out.own.lt (mem_foot.1 hk)).1); obtain ⟨A2, cap3, rfl, _, _⟩ := hA2.1.form encV; generalize hnn : (vs ++ [(rk, rn, rs)]).length = nn at hA2 ⊢; have HNN2 := Lib.hid hnn.symm; clear hnn))
              go_roundw
              case rel => exact ⟨A2, nn, cap3, n1 + 1, vs ++ [(rk, rn, rs)], rfl, by go_num, by omega, Lib.hid ⟨by rw [HNN2.out, List.length_append, HKS.out]; rfl, by rw [List.length_append, HKS.out]; rfl⟩, Lib.hid ⟨hA2.1, E2, fun y hy => by
                  rcases List.mem_append.1 hy with h1 | h1
                  · exact HS.out.fair y h1
                  · simp at h1
                    rw [h1]
                    exact HFX.out⟩, HR2⟩
              case measure => simp [intOf]; omega
            · have hwb : (ry == 0) = false := beq_eq_false_iff_ne.2 hw
              have hwn : (ry != 0) = true := by simp [hw]
              rw [hwb] at HR1
              simp only [Bool.false_eq_true, if_false] at HR1
              have HR2 := Lib.hid HR1
              clear HR1
              go_wp2_with (first
                | ((with_reducible refine (HI.out _ (HEW.out.trans (Ev.alloc wr _))).mono ?_); rintro e w1 ⟨rfl, hE1⟩; have E1 := (HEW.out.trans (Ev.alloc wr _)).trans (hE1.trans (Ev.alloc w1 (.cells #[.int .i64 rk, .int .i64 rn, .string rs] 25))); have B1 := HB.out.ev ((HS.out.ev.trans (Ev.alloc wr _)).trans (hE1.trans (Ev.alloc w1 (.cells #[.int .i64 rk, .int .i64 rn, .string rs] 25)))); obtain ⟨⟨c0, c1, c2⟩, f0, f1, f2⟩ := B1.three))
              (try simp only [Exit.inBlock, Exit.then])
              rw [set3_fold]
              refine bodyPost_ret (results_cellt rfl _ _ _ _ _ rfl (B1.set3 _ _ _) Try.underlying25 rfl Try.sizeVal) rfl ?_
              exact ⟨by rw [HR2.out]; rfl, E1.box (set3_but _ _ _ _ _) (by omega)⟩
          · have hjk : j = kn := by omega
            have i2 : ¬ ((j : Int) < (kn : Int)) := by omega
            have HR1 := HR.out
            rw [hjk, HKN.out, List.drop_length] at HR1
            simp only [List.map_nil, xEvalsGo] at HR1
            obtain ⟨hn1, hks⟩ := HN.out
            obtain ⟨_, capS, hvS, hMS, _⟩ := HS.out.own.form encV
            injection hvS with hv1 hv2 hv3
            subst hv1
            subst hv3
            rw [hks] at hMS
            obtain ⟨h12, hone⟩ := takes_12 HN2.out HIF.out
            rw [← HN1.out, ← hjk] at hone
            rcases hone with h1 | h1
            · obtain ⟨va, rfl⟩ : ∃ va, vs = [va] := List.length_eq_one_iff.1 (by rw [hks, h1])
              have hfa := HS.out.fair va (by simp)
              have hc := hMS.vcell (i := 0) (by omega)
              obtain ⟨b, off, x, rfl, hb, hx, x0, x1, x2⟩ := hc
              obtain rfl : va = x := by simpa using hx
              have HP := fun w1 => ex_perform m.s h12 va va hfa.1 hfa.1 hfa.2 hfa.2 w1
              have HR2 : R = xPerform m.s va va := HR1
              rw [← HR2] at HP
              obtain ⟨⟨rk, rn, rs⟩, ry⟩ := R
              obtain ⟨vk, vn, vs_⟩ := va
              have hn1' : n1 = 1 := by omega
              have hj1 : j = 1 := h1
              subst hn1'
              subst hj1
              unfold vv bstr at HP
              have HP := Lib.hid HP
              have hcap1 := hMS.le
              simp only [Nat.zero_mul, Nat.add_zero] at x0 x1 x2
              clear HR1 HR2 hn1 hks hv2 hMS hjk HN hfa hx h1
              have hXl := (HX1.out.ev HS.out.ev).lt
              have hwz : IntKind.i64.wrap 0 = 0 := IntWalk.i64_in _ (by omega)
              clear h12
              go_upto_region 20 with fail
              refine wp_region_tail hmix [fun v _ => v = .pointer (some ⟨w.heap.size, 1, none⟩), fun v _ => v = .string ⟨m.s.toArray⟩, fun v _ => v = .slice (some ⟨b, off, none⟩) 1 cap1, fun v _ => v = .pointer (some ⟨b, off, none⟩), fun v _ => v = .agg #[.int .i64 vk, .int .i64 vn, .string vs_], fun v _ => v = .slice (some ⟨b, off, none⟩) 1 cap1, fun v _ => v = .slice (some ⟨b, off, none⟩) 1 cap1, fun v _ => v = .int .i64 1, fun v _ => v = .int .i64 0, fun v _ => v = .pointer (some ⟨b, off, none⟩), fun v _ => v = .agg #[.int .i64 vk, .int .i64 vn, .string vs_], fun v _ => v = .tuple #[.agg #[.int .i64 rk, .int .i64 rn, .string rs], .int .i64 ry], fun v _ => v = .agg #[.int .i64 rk, .int .i64 rn, .string rs], fun v _ => v = .int .i64 ry]
                87 rfl 14 _ rfl _ rfl rfl (by kernel_rfl) (by kernel_rfl) (by kernel_rfl) ⟨mono_eq _, mono_eq _, mono_eq _, mono_eq _, mono_eq _, mono_eq _, mono_eq _, mono_eq _, mono_eq _, mono_eq _, mono_eq _, mono_eq _, mono_eq _, mono_eq _, trivial⟩ (opsb_start ?_) ?_
              · refine opsb_cons 0 ?_ (opsb_cons 1 ?_ (opsb_cons 2 ?_ (opsb_cons 3 ?_ (opsb_cons 4 ?_ (opsb_cons 5 ?_ (opsb_cons 6 ?_ (opsb_cons 7 ?_ (opsb_cons 8 ?_ (opsb_cons 9 ?_ (opsb_cons 10 ?_ (opsb_cons 11 ?_ (opsb_cons 12 ?_ (opsb_cons 13 ?_ (opsb_nil2 14 _ _ (by omega)))))))))))))))
                · refine op_value fun a wq c => ⟨(wanted_plain rfl), .pointer (some ⟨w.heap.size, 1, none⟩), ?_, rfl⟩
                  have e3 : a.eval (.tmp 3) = .pointer (some ⟨w.heap.size, 0, none⟩) := (c.was 3 (by kernel_rfl) rfl)
                  generalize a.eval = ρ at e3 ⊢
                  simp [execOp, e3, go_sem]
                · refine op_value fun a wq c => ⟨(wanted_plain rfl), .string ⟨m.s.toArray⟩, ?_, rfl⟩
                  have e73 : a.eval (.tmp 73) = .pointer (some ⟨w.heap.size, 1, none⟩) := (c.new 0 73 (by kernel_rfl) (by kernel_rfl))
                  have hc := (c.ev.cell (p := ⟨w.heap.size, 1, none⟩) hXl).trans c1
                  generalize a.eval = ρ at e73 ⊢
                  simp [execOp, e73, hc, go_sem]
                · refine op_value fun a wq c => ⟨(wanted_plain rfl), _, run_move _ rfl wq, (c.was 10 (by kernel_rfl) rfl)⟩
                · refine op_value fun a wq c => ⟨(wanted_plain rfl), .pointer (some ⟨b, off, none⟩), ?_, rfl⟩
                  have e75 : a.eval (.tmp 75) = .slice (some ⟨b, off, none⟩) 1 cap1 := (c.new 2 75 (by kernel_rfl) (by kernel_rfl))
                  have kc0 : a.eval (.const (.int .i64 0)) = .int .i64 0 := rfl
                  generalize a.eval = ρ at e75 kc0 ⊢
                  simp [execOp, e75, kc0, go_sem]
                · refine op_value fun a wq c => ⟨(wanted_plain rfl), _, run_load_elem rfl ((c.new 3 76 (by kernel_rfl) (by kernel_rfl)) : a.eval (.tmp 76) = .pointer (some ⟨b, off, none⟩)) ((c.ev.cell (p := ⟨_, _, none⟩) hb).trans x0) ((c.ev.cell (p := ⟨_, _, none⟩) hb).trans x1) ((c.ev.cell (p := ⟨_, _, none⟩) hb).trans x2), rfl⟩
                · refine op_value fun a wq c => ⟨(wanted_plain rfl), _, run_move _ rfl wq, (c.was 10 (by kernel_rfl) rfl)⟩
                · refine op_value fun a wq c => ⟨(wanted_plain rfl), _, run_move _ rfl wq, (c.was 10 (by kernel_rfl) rfl)⟩
                · refine op_value fun a wq c => ⟨(wanted_plain rfl), .int .i64 1, ?_, rfl⟩
                  have e79 : a.eval (.tmp 79) = .slice (some ⟨b, off, none⟩) 1 cap1 := (c.new 6 79 (by kernel_rfl) (by kernel_rfl))
                  generalize a.eval = ρ at e79 ⊢
                  simp [e79, go_sem]
                · refine op_value fun a wq c => ⟨(wanted_plain rfl), .int .i64 0, ?_, rfl⟩
                  have e80 : a.eval (.tmp 80) = .int .i64 1 := (c.new 7 80 (by kernel_rfl) (by kernel_rfl))
                  have kc0 : a.eval (.const (.int .i64 1)) = .int .i64 1 := rfl
                  generalize a.eval = ρ at e80 kc0 ⊢
                  simp [execOp, e80, kc0, go_sem, hwz]
                · refine op_value fun a wq c => ⟨(wanted_plain rfl), .pointer (some ⟨b, off, none⟩), ?_, rfl⟩
                  have e78 : a.eval (.tmp 78) = .slice (some ⟨b, off, none⟩) 1 cap1 := (c.new 5 78 (by kernel_rfl) (by kernel_rfl))
                  have e81 : a.eval (.tmp 81) = .int .i64 0 := (c.new 8 81 (by kernel_rfl) (by kernel_rfl))
                  generalize a.eval = ρ at e78 e81 ⊢
                  simp [execOp, e78, e81, go_sem]
                · refine op_value fun a wq c => ⟨(wanted_plain rfl), _, run_load_elem rfl ((c.new 9 82 (by kernel_rfl) (by kernel_rfl)) : a.eval (.tmp 82) = .pointer (some ⟨b, off, none⟩)) ((c.ev.cell (p := ⟨_, _, none⟩) hb).trans x0) ((c.ev.cell (p := ⟨_, _, none⟩) hb).trans x1) ((c.ev.cell (p := ⟨_, _, none⟩) hb).trans x2), rfl⟩
                · refine op_call fun a w_ c => ⟨(wanted_plain rfl), 56, #[.string ⟨m.s.toArray⟩, .agg #[.int .i64 vk, .int .i64 vn, .string vs_], .agg #[.int .i64 vk, .int .i64 vn, .string vs_]], ?_, ?_⟩
                  · rw [run_call 56 _ _ rfl (by kernel_rfl)]
                    have e_0 : a.eval (.tmp 74) = .string ⟨m.s.toArray⟩ := (c.new 1 74 (by kernel_rfl) (by kernel_rfl))
                    have e_1 : a.eval (.tmp 77) = .agg #[.int .i64 vk, .int .i64 vn, .string vs_] := (c.new 4 77 (by kernel_rfl) (by kernel_rfl))
                    have e_2 : a.eval (.tmp 83) = .agg #[.int .i64 vk, .int .i64 vn, .string vs_] := (c.new 10 83 (by kernel_rfl) (by kernel_rfl))
                    simp [e_0, e_1, e_2]
                  · refine (HP.out w_).mono ?_
                    rintro e w' ⟨rfl, hE1⟩
                    exact ⟨_, rfl, hE1, rfl⟩
                · refine op_value fun a wq c => ⟨(wanted_plain rfl), .agg #[.int .i64 rk, .int .i64 rn, .string rs], ?_, rfl⟩
                  have e84 : a.eval (.tmp 84) = .tuple #[.agg #[.int .i64 rk, .int .i64 rn, .string rs], .int .i64 ry] := (c.new 11 84 (by kernel_rfl) (by kernel_rfl))
                  generalize a.eval = ρ at e84 ⊢
                  simp [execOp, e84, go_sem]
                · refine op_value fun a wq c => ⟨(wanted_plain rfl), .int .i64 ry, ?_, rfl⟩
                  have e84 : a.eval (.tmp 84) = .tuple #[.agg #[.int .i64 rk, .int .i64 rn, .string rs], .int .i64 ry] := (c.new 11 84 (by kernel_rfl) (by kernel_rfl))
                  generalize a.eval = ρ at e84 ⊢
                  simp [execOp, e84, go_sem]
              intro s w5 hE hold hnew
              have f3 : s 3 = .pointer (some ⟨w.heap.size, 0, none⟩) := hold 3 (by kernel_rfl)
              have f6 : s 6 = .pointer (some ⟨w.heap.size + 1, 0, none⟩) := hold 6 (by kernel_rfl)
              have f10 : s 10 = .slice (some ⟨b, off, none⟩) 1 cap1 := hold 10 (by kernel_rfl)
              have f73 : s 73 = .pointer (some ⟨w.heap.size, 1, none⟩) := hnew 0 73 (by omega) (by kernel_rfl)
              have f74 : s 74 = .string ⟨m.s.toArray⟩ := hnew 1 74 (by omega) (by kernel_rfl)
              have f75 : s 75 = .slice (some ⟨b, off, none⟩) 1 cap1 := hnew 2 75 (by omega) (by kernel_rfl)
              have f76 : s 76 = .pointer (some ⟨b, off, none⟩) := hnew 3 76 (by omega) (by kernel_rfl)
              have f77 : s 77 = .agg #[.int .i64 vk, .int .i64 vn, .string vs_] := hnew 4 77 (by omega) (by kernel_rfl)
              have f78 : s 78 = .slice (some ⟨b, off, none⟩) 1 cap1 := hnew 5 78 (by omega) (by kernel_rfl)
              have f79 : s 79 = .slice (some ⟨b, off, none⟩) 1 cap1 := hnew 6 79 (by omega) (by kernel_rfl)
              have f80 : s 80 = .int .i64 1 := hnew 7 80 (by omega) (by kernel_rfl)
              have f81 : s 81 = .int .i64 0 := hnew 8 81 (by omega) (by kernel_rfl)
              have f82 : s 82 = .pointer (some ⟨b, off, none⟩) := hnew 9 82 (by omega) (by kernel_rfl)
              have f83 : s 83 = .agg #[.int .i64 vk, .int .i64 vn, .string vs_] := hnew 10 83 (by omega) (by kernel_rfl)
              have f84 : s 84 = .tuple #[.agg #[.int .i64 rk, .int .i64 rn, .string rs], .int .i64 ry] := hnew 11 84 (by omega) (by kernel_rfl)
              have f85 : s 85 = .agg #[.int .i64 rk, .int .i64 rn, .string rs] := hnew 12 85 (by omega) (by kernel_rfl)
              have f86 : s 86 = .int .i64 ry := hnew 13 86 (by omega) (by kernel_rfl)
              change Region.wanted _ (yielded _ #[s 0, s 1, s 2, s 3, s 4, s 5, s 6, s 7, s 8, s 9, s 10, s 11, s 12, s 13, s 14, s 15, s 16, s 17, s 18, s 19, s 20, s 21, s 22, s 23, s 24, s 25, s 26, s 27, s 28, s 29, s 30, s 31, s 32, s 33, s 34, s 35, s 36, s 37, s 38, s 39, s 40, s 41, s 42, s 43, s 44, s 45, s 46, s 47, s 48, s 49, s 50, s 51, s 52, s 53, s 54, s 55, s 56, s 57, s 58, s 59, s 60, s 61, s 62, s 63, s 64, s 65, s 66, s 67, s 68, s 69, s 70, s 71, s 72, s 73, s 74, s 75, s 76, s 77, s 78, s 79, s 80, s 81, s 82, s 83, s 84, s 85, s 86]) = true ∧ Oper.wp _ _ ⟨#[s 0, s 1, s 2, s 3, s 4, s 5, s 6, s 7, s 8, s 9, s 10, s 11, s 12, s 13, s 14, s 15, s 16, s 17, s 18, s 19, s 20, s 21, s 22, s 23, s 24, s 25, s 26, s 27, s 28, s 29, s 30, s 31, s 32, s 33, s 34, s 35, s 36, s 37, s 38, s 39, s 40, s 41, s 42, s 43, s 44, s 45, s 46, s 47, s 48, s 49, s 50, s 51, s 52, s 53, s 54, s 55, s 56, s 57, s 58, s 59, s 60, s 61, s 62, s 63, s 64, s 65, s 66, s 67, s 68, s 69, s 70, s 71, s 72, s 73, s 74, s 75, s 76, s 77, s 78, s 79, s 80, s 81, s 82, s 83, s 84, s 85, s 86], _⟩ _ _ _
              have B1 := HB.out.ev (HS.out.ev.trans hE)
              have E1 := HEW.out.trans hE
              obtain ⟨⟨c0, c1, c2⟩, f0_, f1_, f2_⟩ := B1.three
              refine ⟨wanted_plain rfl, wp_of_skip (w' := set3 (w.heap.size + 1) (.int .i64 rk) (.int .i64 rn) (.string rs) w5) ?_ ⟨wanted_plain rfl, wp_of_value (run_assign (.tmp 86) rfl _) ?_⟩⟩
              · change (execOp (Act.eval ⟨#[s 0, s 1, s 2, s 3, s 4, s 5, s 6, s 7, s 8, s 9, s 10, s 11, s 12, s 13, s 14, s 15, s 16, s 17, s 18, s 19, s 20, s 21, s 22, s 23, s 24, s 25, s 26, s 27, s 28, s 29, s 30, s 31, s 32, s 33, s 34, s 35, s 36, s 37, s 38, s 39, s 40, s 41, s 42, s 43, s 44, s 45, s 46, s 47, s 48, s 49, s 50, s 51, s 52, s 53, s 54, s 55, s 56, s 57, s 58, s 59, s 60, s 61, s 62, s 63, s 64, s 65, s 66, s 67, s 68, s 69, s 70, s 71, s 72, s 73, s 74, s 75, s 76, s 77, s 78, s 79, s 80, s 81, s 82, s 83, s 84, s 85, s 86], _⟩) ⟨none, .store 25 (.tmp 6) (.tmp 85), _, _, _, _⟩).run _ _ = _
                simp [execOp, f6, f85, go_sem, c0, c1, c2, f0_, f1_, f2_, set3]
              change Exit.then _ _ .normal ⟨#[s 0, s 1, s 2, s 3, s 4, s 5, s 6, s 86, s 8, s 9, s 10, s 11, s 12, s 13, s 14, s 15, s 16, s 17, s 18, s 19, s 20, s 21, s 22, s 23, s 24, s 25, s 26, s 27, s 28, s 29, s 30, s 31, s 32, s 33, s 34, s 35, s 36, s 37, s 38, s 39, s 40, s 41, s 42, s 43, s 44, s 45, s 46, s 47, s 48, s 49, s 50, s 51, s 52, s 53, s 54, s 55, s 56, s 57, s 58, s 59, s 60, s 61, s 62, s 63, s 64, s 65, s 66, s 67, s 68, s 69, s 70, s 71, s 72, s 73, s 74, s 75, s 76, s 77, s 78, s 79, s 80, s 81, s 82, s 83, s 84, s 85, s 86], _⟩ _
              simp only [f6, f86]
              clear hold hnew
              generalize s 0 = u0_
              generalize s 1 = u1_
              generalize s 2 = u2_
              generalize s 3 = u3_
              generalize s 4 = u4_
              generalize s 5 = u5_
              generalize s 8 = u8_
              generalize s 9 = u9_
              generalize s 10 = u10_
              generalize s 11 = u11_
              generalize s 12 = u12_
              generalize s 13 = u13_
              generalize s 14 = u14_
              generalize s 15 = u15_
              generalize s 16 = u16_
              generalize s 17 = u17_
              generalize s 18 = u18_
              generalize s 19 = u19_
              generalize s 20 = u20_
              generalize s 21 = u21_
              generalize s 22 = u22_
              generalize s 23 = u23_
              generalize s 24 = u24_
              generalize s 25 = u25_
              generalize s 26 = u26_
              generalize s 27 = u27_
              generalize s 28 = u28_
              generalize s 29 = u29_
              generalize s 30 = u30_
              generalize s 31 = u31_
              generalize s 32 = u32_
              generalize s 33 = u33_
              generalize s 34 = u34_
              generalize s 35 = u35_
              generalize s 36 = u36_
              generalize s 37 = u37_
              generalize s 38 = u38_
              generalize s 39 = u39_
              generalize s 40 = u40_
              generalize s 41 = u41_
              generalize s 42 = u42_
              generalize s 43 = u43_
              generalize s 44 = u44_
              generalize s 45 = u45_
              generalize s 46 = u46_
              generalize s 47 = u47_
              generalize s 48 = u48_
              generalize s 49 = u49_
              generalize s 50 = u50_
              generalize s 51 = u51_
              generalize s 52 = u52_
              generalize s 53 = u53_
              generalize s 54 = u54_
              generalize s 55 = u55_
              generalize s 56 = u56_
              generalize s 57 = u57_
              generalize s 58 = u58_
              generalize s 59 = u59_
              generalize s 60 = u60_
              generalize s 61 = u61_
              generalize s 62 = u62_
              generalize s 63 = u63_
              generalize s 64 = u64_
              generalize s 65 = u65_
              generalize s 66 = u66_
              generalize s 67 = u67_
              generalize s 68 = u68_
              generalize s 69 = u69_
              generalize s 70 = u70_
              generalize s 71 = u71_
              generalize s 72 = u72_
              generalize s 73 = u73_
              generalize s 74 = u74_
              generalize s 75 = u75_
              generalize s 76 = u76_
              generalize s 77 = u77_
              generalize s 78 = u78_
              generalize s 79 = u79_
              generalize s 80 = u80_
              generalize s 81 = u81_
              generalize s 82 = u82_
              generalize s 83 = u83_
              generalize s 84 = u84_
              generalize s 85 = u85_
              go_wp2
              have B2 := B1.set3 (.int .i64 rk) (.int .i64 rn) (.string rs)
              have EB := set3_but (w.heap.size + 1) (.int .i64 rk) (.int .i64 rn) (.string rs) w5
              generalize set3 (w.heap.size + 1) (.int .i64 rk) (.int .i64 rn) (.string rs) w5 = wf at B2 EB ⊢
              (try simp only [Exit.inBlock, Exit.then])
              refine bodyPost_ret (results_cellt rfl _ _ _ _ _ rfl B2 Try.underlying25 rfl Try.sizeVal) rfl ?_
              exact ⟨rfl, E1.box EB (by omega)⟩
            · obtain ⟨va, vb, rfl⟩ := two_of (by rw [hks, h1] : vs.length = 2)
              have hfa := HS.out.fair va (by simp)
              have hfb := HS.out.fair vb (by simp)
              obtain ⟨b, off, x, rfl, hb, hx, x0, x1, x2⟩ := hMS.vcell (i := 0) (by omega)
              obtain rfl : va = x := by simpa using hx
              obtain ⟨b', off', y, he, _, hy, y0, y1, y2⟩ := hMS.vcell (i := 1) (by omega)
              obtain rfl : vb = y := by simpa using hy
              injection he with he
              injection he with he1 he2 _
              subst he1
              subst he2
              have HP := fun w1 => ex_perform m.s h12 va vb hfa.1 hfb.1 hfa.2 hfb.2 w1
              have HR2 : R = xPerform m.s va vb := HR1
              rw [← HR2] at HP
              obtain ⟨⟨rk, rn, rs⟩, ry⟩ := R
              obtain ⟨vk, vn, vs_⟩ := va
              obtain ⟨uk, un, us_⟩ := vb
              have hn1' : n1 = 2 := by omega
              have hj1 : j = 2 := h1
              subst hn1'
              subst hj1
              unfold vv bstr at HP
              have HP := Lib.hid HP
              have hcap1 := hMS.le
              simp only [Nat.zero_mul, Nat.add_zero, Nat.one_mul] at x0 x1 x2 y0 y1 y2
              clear HR1 HR2 hn1 hks hv2 hMS hjk HN hfa hfb hx hy h1
              have hXl := (HX1.out.ev HS.out.ev).lt
              have hwz : IntKind.i64.wrap 1 = 1 := IntWalk.i64_in _ (by omega)
              clear h12
              go_upto_region 20 with fail
              refine wp_region_tail hmix [fun v _ => v = .pointer (some ⟨w.heap.size, 1, none⟩), fun v _ => v = .string ⟨m.s.toArray⟩, fun v _ => v = .slice (some ⟨b, off, none⟩) 2 cap1, fun v _ => v = .pointer (some ⟨b, off, none⟩), fun v _ => v = .agg #[.int .i64 vk, .int .i64 vn, .string vs_], fun v _ => v = .slice (some ⟨b, off, none⟩) 2 cap1, fun v _ => v = .slice (some ⟨b, off, none⟩) 2 cap1, fun v _ => v = .int .i64 2, fun v _ => v = .int .i64 1, fun v _ => v = .pointer (some ⟨b, off + 3, none⟩), fun v _ => v = .agg #[.int .i64 uk, .int .i64 un, .string us_], fun v _ => v = .tuple #[.agg #[.int .i64 rk, .int .i64 rn, .string rs], .int .i64 ry], fun v _ => v = .agg #[.int .i64 rk, .int .i64 rn, .string rs], fun v _ => v = .int .i64 ry]
                87 rfl 14 _ rfl _ rfl rfl (by kernel_rfl) (by kernel_rfl) (by kernel_rfl) ⟨mono_eq _, mono_eq _, mono_eq _, mono_eq _, mono_eq _, mono_eq _, mono_eq _, mono_eq _, mono_eq _, mono_eq _, mono_eq _, mono_eq _, mono_eq _, mono_eq _, trivial⟩ (opsb_start ?_) ?_
              · refine opsb_cons 0 ?_ (opsb_cons 1 ?_ (opsb_cons 2 ?_ (opsb_cons 3 ?_ (opsb_cons 4 ?_ (opsb_cons 5 ?_ (opsb_cons 6 ?_ (opsb_cons 7 ?_ (opsb_cons 8 ?_ (opsb_cons 9 ?_ (opsb_cons 10 ?_ (opsb_cons 11 ?_ (opsb_cons 12 ?_ (opsb_cons 13 ?_ (opsb_nil2 14 _ _ (by omega)))))))))))))))
                · refine op_value fun a wq c => ⟨(wanted_plain rfl), .pointer (some ⟨w.heap.size, 1, none⟩), ?_, rfl⟩
                  have e3 : a.eval (.tmp 3) = .pointer (some ⟨w.heap.size, 0, none⟩) := (c.was 3 (by kernel_rfl) rfl)
                  generalize a.eval = ρ at e3 ⊢
                  simp [execOp, e3, go_sem]
                · refine op_value fun a wq c => ⟨(wanted_plain rfl), .string ⟨m.s.toArray⟩, ?_, rfl⟩
                  have e73 : a.eval (.tmp 73) = .pointer (some ⟨w.heap.size, 1, none⟩) := (c.new 0 73 (by kernel_rfl) (by kernel_rfl))
                  have hc := (c.ev.cell (p := ⟨w.heap.size, 1, none⟩) hXl).trans c1
                  generalize a.eval = ρ at e73 ⊢
                  simp [execOp, e73, hc, go_sem]
                · refine op_value fun a wq c => ⟨(wanted_plain rfl), _, run_move _ rfl wq, (c.was 10 (by kernel_rfl) rfl)⟩
                · refine op_value fun a wq c => ⟨(wanted_plain rfl), .pointer (some ⟨b, off, none⟩), ?_, rfl⟩
                  have e75 : a.eval (.tmp 75) = .slice (some ⟨b, off, none⟩) 2 cap1 := (c.new 2 75 (by kernel_rfl) (by kernel_rfl))
                  have kc0 : a.eval (.const (.int .i64 0)) = .int .i64 0 := rfl
                  generalize a.eval = ρ at e75 kc0 ⊢
                  simp [execOp, e75, kc0, go_sem]
                · refine op_value fun a wq c => ⟨(wanted_plain rfl), _, run_load_elem rfl ((c.new 3 76 (by kernel_rfl) (by kernel_rfl)) : a.eval (.tmp 76) = .pointer (some ⟨b, off, none⟩)) ((c.ev.cell (p := ⟨_, _, none⟩) hb).trans x0) ((c.ev.cell (p := ⟨_, _, none⟩) hb).trans x1) ((c.ev.cell (p := ⟨_, _, none⟩) hb).trans x2), rfl⟩
                · refine op_value fun a wq c => ⟨(wanted_plain rfl), _, run_move _ rfl wq, (c.was 10 (by kernel_rfl) rfl)⟩
                · refine op_value fun a wq c => ⟨(wanted_plain rfl), _, run_move _ rfl wq, (c.was 10 (by kernel_rfl) rfl)⟩
                · refine op_value fun a wq c => ⟨(wanted_plain rfl), .int .i64 2, ?_, rfl⟩
                  have e79 : a.eval (.tmp 79) = .slice (some ⟨b, off, none⟩) 2 cap1 := (c.new 6 79 (by kernel_rfl) (by kernel_rfl))
                  generalize a.eval = ρ at e79 ⊢
                  simp [e79, go_sem]
                · refine op_value fun a wq c => ⟨(wanted_plain rfl), .int .i64 1, ?_, rfl⟩
                  have e80 : a.eval (.tmp 80) = .int .i64 2 := (c.new 7 80 (by kernel_rfl) (by kernel_rfl))
                  have kc0 : a.eval (.const (.int .i64 1)) = .int .i64 1 := rfl
                  generalize a.eval = ρ at e80 kc0 ⊢
                  simp [execOp, e80, kc0, go_sem, hwz]
                · refine op_value fun a wq c => ⟨(wanted_plain rfl), .pointer (some ⟨b, off + 3, none⟩), ?_, rfl⟩
                  have e78 : a.eval (.tmp 78) = .slice (some ⟨b, off, none⟩) 2 cap1 := (c.new 5 78 (by kernel_rfl) (by kernel_rfl))
                  have e81 : a.eval (.tmp 81) = .int .i64 1 := (c.new 8 81 (by kernel_rfl) (by kernel_rfl))
                  generalize a.eval = ρ at e78 e81 ⊢
                  simp [execOp, e78, e81, go_sem]
                · refine op_value fun a wq c => ⟨(wanted_plain rfl), _, run_load_elem rfl ((c.new 9 82 (by kernel_rfl) (by kernel_rfl)) : a.eval (.tmp 82) = .pointer (some ⟨b, off + 3, none⟩)) ((c.ev.cell (p := ⟨_, _, none⟩) hb).trans y0) ((c.ev.cell (p := ⟨_, _, none⟩) hb).trans y1) ((c.ev.cell (p := ⟨_, _, none⟩) hb).trans y2), rfl⟩
                · refine op_call fun a w_ c => ⟨(wanted_plain rfl), 56, #[.string ⟨m.s.toArray⟩, .agg #[.int .i64 vk, .int .i64 vn, .string vs_], .agg #[.int .i64 uk, .int .i64 un, .string us_]], ?_, ?_⟩
                  · rw [run_call 56 _ _ rfl (by kernel_rfl)]
                    have e_0 : a.eval (.tmp 74) = .string ⟨m.s.toArray⟩ := (c.new 1 74 (by kernel_rfl) (by kernel_rfl))
                    have e_1 : a.eval (.tmp 77) = .agg #[.int .i64 vk, .int .i64 vn, .string vs_] := (c.new 4 77 (by kernel_rfl) (by kernel_rfl))
                    have e_2 : a.eval (.tmp 83) = .agg #[.int .i64 uk, .int .i64 un, .string us_] := (c.new 10 83 (by kernel_rfl) (by kernel_rfl))
                    simp [e_0, e_1, e_2]
                  · refine (HP.out w_).mono ?_
                    rintro e w' ⟨rfl, hE1⟩
                    exact ⟨_, rfl, hE1, rfl⟩
                · refine op_value fun a wq c => ⟨(wanted_plain rfl), .agg #[.int .i64 rk, .int .i64 rn, .string rs], ?_, rfl⟩
                  have e84 : a.eval (.tmp 84) = .tuple #[.agg #[.int .i64 rk, .int .i64 rn, .string rs], .int .i64 ry] := (c.new 11 84 (by kernel_rfl) (by kernel_rfl))
                  generalize a.eval = ρ at e84 ⊢
                  simp [execOp, e84, go_sem]
                · refine op_value fun a wq c => ⟨(wanted_plain rfl), .int .i64 ry, ?_, rfl⟩
                  have e84 : a.eval (.tmp 84) = .tuple #[.agg #[.int .i64 rk, .int .i64 rn, .string rs], .int .i64 ry] := (c.new 11 84 (by kernel_rfl) (by kernel_rfl))
                  generalize a.eval = ρ at e84 ⊢
                  simp [execOp, e84, go_sem]
              intro s w5 hE hold hnew
              have f3 : s 3 = .pointer (some ⟨w.heap.size, 0, none⟩) := hold 3 (by kernel_rfl)
              have f6 : s 6 = .pointer (some ⟨w.heap.size + 1, 0, none⟩) := hold 6 (by kernel_rfl)
              have f10 : s 10 = .slice (some ⟨b, off, none⟩) 2 cap1 := hold 10 (by kernel_rfl)
              have f73 : s 73 = .pointer (some ⟨w.heap.size, 1, none⟩) := hnew 0 73 (by omega) (by kernel_rfl)
              have f74 : s 74 = .string ⟨m.s.toArray⟩ := hnew 1 74 (by omega) (by kernel_rfl)
              have f75 : s 75 = .slice (some ⟨b, off, none⟩) 2 cap1 := hnew 2 75 (by omega) (by kernel_rfl)
              have f76 : s 76 = .pointer (some ⟨b, off, none⟩) := hnew 3 76 (by omega) (by kernel_rfl)
              have f77 : s 77 = .agg #[.int .i64 vk, .int .i64 vn, .string vs_] := hnew 4 77 (by omega) (by kernel_rfl)
              have f78 : s 78 = .slice (some ⟨b, off, none⟩) 2 cap1 := hnew 5 78 (by omega) (by kernel_rfl)
              have f79 : s 79 = .slice (some ⟨b, off, none⟩) 2 cap1 := hnew 6 79 (by omega) (by kernel_rfl)
              have f80 : s 80 = .int .i64 2 := hnew 7 80 (by omega) (by kernel_rfl)
              have f81 : s 81 = .int .i64 1 := hnew 8 81 (by omega) (by kernel_rfl)
              have f82 : s 82 = .pointer (some ⟨b, off + 3, none⟩) := hnew 9 82 (by omega) (by kernel_rfl)
              have f83 : s 83 = .agg #[.int .i64 uk, .int .i64 un, .string us_] := hnew 10 83 (by omega) (by kernel_rfl)
              have f84 : s 84 = .tuple #[.agg #[.int .i64 rk, .int .i64 rn, .string rs], .int .i64 ry] := hnew 11 84 (by omega) (by kernel_rfl)
              have f85 : s 85 = .agg #[.int .i64 rk, .int .i64 rn, .string rs] := hnew 12 85 (by omega) (by kernel_rfl)
              have f86 : s 86 = .int .i64 ry := hnew 13 86 (by omega) (by kernel_rfl)
              change Region.wanted _ (yielded _ #[s 0, s 1, s 2, s 3, s 4, s 5, s 6, s 7, s 8, s 9, s 10, s 11, s 12, s 13, s 14, s 15, s 16, s 17, s 18, s 19, s 20, s 21, s 22, s 23, s 24, s 25, s 26, s 27, s 28, s 29, s 30, s 31, s 32, s 33, s 34, s 35, s 36, s 37, s 38, s 39, s 40, s 41, s 42, s 43, s 44, s 45, s 46, s 47, s 48, s 49, s 50, s 51, s 52, s 53, s 54, s 55, s 56, s 57, s 58, s 59, s 60, s 61, s 62, s 63, s 64, s 65, s 66, s 67, s 68, s 69, s 70, s 71, s 72, s 73, s 74, s 75, s 76, s 77, s 78, s 79, s 80, s 81, s 82, s 83, s 84, s 85, s 86]) = true ∧ Oper.wp _ _ ⟨#[s 0, s 1, s 2, s 3, s 4, s 5, s 6, s 7, s 8, s 9, s 10, s 11, s 12, s 13, s 14, s 15, s 16, s 17, s 18, s 19, s 20, s 21, s 22, s 23, s 24, s 25, s 26, s 27, s 28, s 29, s 30, s 31, s 32, s 33, s 34, s 35, s 36, s 37, s 38, s 39, s 40, s 41, s 42, s 43, s 44, s 45, s 46, s 47, s 48, s 49, s 50, s 51, s 52, s 53, s 54, s 55, s 56, s 57, s 58, s 59, s 60, s 61, s 62, s 63, s 64, s 65, s 66, s 67, s 68, s 69, s 70, s 71, s 72, s 73, s 74, s 75, s 76, s 77, s 78, s 79, s 80, s 81, s 82, s 83, s 84, s 85, s 86], _⟩ _ _ _
              have B1 := HB.out.ev (HS.out.ev.trans hE)
              have E1 := HEW.out.trans hE
              obtain ⟨⟨c0, c1, c2⟩, f0_, f1_, f2_⟩ := B1.three
              refine ⟨wanted_plain rfl, wp_of_skip (w' := set3 (w.heap.size + 1) (.int .i64 rk) (.int .i64 rn) (.string rs) w5) ?_ ⟨wanted_plain rfl, wp_of_value (run_assign (.tmp 86) rfl _) ?_⟩⟩
              · change (execOp (Act.eval ⟨#[s 0, s 1, s 2, s 3, s 4, s 5, s 6, s 7, s 8, s 9, s 10, s 11, s 12, s 13, s 14, s 15, s 16, s 17, s 18, s 19, s 20, s 21, s 22, s 23, s 24, s 25, s 26, s 27, s 28, s 29, s 30, s 31, s 32, s 33, s 34, s 35, s 36, s 37, s 38, s 39, s 40, s 41, s 42, s 43, s 44, s 45, s 46, s 47, s 48, s 49, s 50, s 51, s 52, s 53, s 54, s 55, s 56, s 57, s 58, s 59, s 60, s 61, s 62, s 63, s 64, s 65, s 66, s 67, s 68, s 69, s 70, s 71, s 72, s 73, s 74, s 75, s 76, s 77, s 78, s 79, s 80, s 81, s 82, s 83, s 84, s 85, s 86], _⟩) ⟨none, .store 25 (.tmp 6) (.tmp 85), _, _, _, _⟩).run _ _ = _
                simp [execOp, f6, f85, go_sem, c0, c1, c2, f0_, f1_, f2_, set3]
              change Exit.then _ _ .normal ⟨#[s 0, s 1, s 2, s 3, s 4, s 5, s 6, s 86, s 8, s 9, s 10, s 11, s 12, s 13, s 14, s 15, s 16, s 17, s 18, s 19, s 20, s 21, s 22, s 23, s 24, s 25, s 26, s 27, s 28, s 29, s 30, s 31, s 32, s 33, s 34, s 35, s 36, s 37, s 38, s 39, s 40, s 41, s 42, s 43, s 44, s 45, s 46, s 47, s 48, s 49, s 50, s 51, s 52, s 53, s 54, s 55, s 56, s 57, s 58, s 59, s 60, s 61, s 62, s 63, s 64, s 65, s 66, s 67, s 68, s 69, s 70, s 71, s 72, s 73, s 74, s 75, s 76, s 77, s 78, s 79, s 80, s 81, s 82, s 83, s 84, s 85, s 86], _⟩ _
              simp only [f6, f86]
              clear hold hnew
              generalize s 0 = u0_
              generalize s 1 = u1_
              generalize s 2 = u2_
              generalize s 3 = u3_
              generalize s 4 = u4_
              generalize s 5 = u5_
              generalize s 8 = u8_
              generalize s 9 = u9_
              generalize s 10 = u10_
              generalize s 11 = u11_
              generalize s 12 = u12_
              generalize s 13 = u13_
              generalize s 14 = u14_
              generalize s 15 = u15_
              generalize s 16 = u16_
              generalize s 17 = u17_
              generalize s 18 = u18_
              generalize s 19 = u19_
              generalize s 20 = u20_
              generalize s 21 = u21_
              generalize s 22 = u22_
              generalize s 23 = u23_
              generalize s 24 = u24_
              generalize s 25 = u25_
              generalize s 26 = u26_
              generalize s 27 = u27_
              generalize s 28 = u28_
              generalize s 29 = u29_
              generalize s 30 = u30_
              generalize s 31 = u31_
              generalize s 32 = u32_
              generalize s 33 = u33_
              generalize s 34 = u34_
              generalize s 35 = u35_
              generalize s 36 = u36_
              generalize s 37 = u37_
              generalize s 38 = u38_
              generalize s 39 = u39_
              generalize s 40 = u40_
              generalize s 41 = u41_
              generalize s 42 = u42_
              generalize s 43 = u43_
              generalize s 44 = u44_
              generalize s 45 = u45_
              generalize s 46 = u46_
              generalize s 47 = u47_
              generalize s 48 = u48_
              generalize s 49 = u49_
              generalize s 50 = u50_
              generalize s 51 = u51_
              generalize s 52 = u52_
              generalize s 53 = u53_
              generalize s 54 = u54_
              generalize s 55 = u55_
              generalize s 56 = u56_
              generalize s 57 = u57_
              generalize s 58 = u58_
              generalize s 59 = u59_
              generalize s 60 = u60_
              generalize s 61 = u61_
              generalize s 62 = u62_
              generalize s 63 = u63_
              generalize s 64 = u64_
              generalize s 65 = u65_
              generalize s 66 = u66_
              generalize s 67 = u67_
              generalize s 68 = u68_
              generalize s 69 = u69_
              generalize s 70 = u70_
              generalize s 71 = u71_
              generalize s 72 = u72_
              generalize s 73 = u73_
              generalize s 74 = u74_
              generalize s 75 = u75_
              generalize s 76 = u76_
              generalize s 77 = u77_
              generalize s 78 = u78_
              generalize s 79 = u79_
              generalize s 80 = u80_
              generalize s 81 = u81_
              generalize s 82 = u82_
              generalize s 83 = u83_
              generalize s 84 = u84_
              generalize s 85 = u85_
              go_wp2
              have B2 := B1.set3 (.int .i64 rk) (.int .i64 rn) (.string rs)
              have EB := set3_but (w.heap.size + 1) (.int .i64 rk) (.int .i64 rn) (.string rs) w5
              generalize set3 (w.heap.size + 1) (.int .i64 rk) (.int .i64 rn) (.string rs) w5 = wf at B2 EB ⊢
              (try simp only [Exit.inBlock, Exit.then])
              refine bodyPost_ret (results_cellt rfl _ _ _ _ _ rfl B2 Try.underlying25 rfl Try.sizeVal) rfl ?_
              exact ⟨rfl, E1.box EB (by omega)⟩
end Go.Proofs.Ytgiofdmedhhobaa

namespace Go.Proofs.Ytgiofdmedhhobaa
open Go.RowKit
set_option linter.unusedVariables false

mutual
theorem every_imp {p q : T → Bool} (hpq : ∀ t, p t = true → q t = true) : ∀ t : T, t.every p = true → t.every q = true
  | .mk k s n l x, h => by
    rw [T.every, Bool.and_eq_true] at h ⊢
    exact ⟨hpq _ h.1, everys_imp hpq l h.2⟩
theorem everys_imp {p q : T → Bool} (hpq : ∀ t, p t = true → q t = true) : ∀ l : List T, T.everys p l = true → T.everys q l = true
  | [], _ => rfl
  | t :: l, h => by
    rw [T.everys, Bool.and_eq_true] at h ⊢
    exact ⟨every_imp hpq t h.1, everys_imp hpq l h.2⟩
end
theorem fair_short {t : T} (h : t.every fairB = true) : t.every (fun t => decide (t.s.length ≤ 1000000)) = true :=
  every_imp (fun t ht => by
    unfold fairB at ht
    simp only [Bool.and_eq_true, decide_eq_true_iff] at ht ⊢
    omega) t h
theorem xType_ok {cols : List C} {t : T} (h : (xType cols t).2 = 0) : xRight t = true ∧ (xKind cols t).2 = 0 := by
  unfold xType at h
  split at h
  · rename_i hr; exact ⟨hr, h⟩
  · cases h

set_option maxRecDepth 100000 in
set_option maxHeartbeats 1600000 in
theorem ex_eval (m : M) (b0 : Nat) (w : World) (A : Option Addr) (n cap : Nat) (cols : List C) (B : Option Addr) (n2 cap2 : Nat) (r : List V) (hL : Lx b0 [] w m) (hC : Cs w A n cap cols) (hV : Vs w B n2 cap2 r) (hsz : m.t.size ≤ 16000) (hfr : ∀ x ∈ r, fairV x) (hfm : m.t.every fairB = true) :
    Calls Try.prog 14 #[ev_ m, .slice A n cap, .slice B n2 cap2] w (VOut (xValue cols r m.t) w) := by
  have HT := fun w1 (hE : Ev w w1) => ex_type m b0 w1 A n cap cols (hL.ev hE) (hC.ev hE) hsz (fair_short hfm)
  have HF := fun w1 (hE : Ev w w1) => row_fits w1 (hC.ev hE) (hV.ev hE)
  have HX := fun w1 (hE : Ev w w1) (hty : (xType cols m.t).2 = 0) (hfit : fitsL cols r = true) => ex_evaluate m.dep m b0 w1 A n cap cols B n2 cap2 r (Nat.le_refl _) (hL.ev hE) (hC.ev hE) (hV.ev hE) (xType_ok hty).1 (xType_ok hty).2 hfit hfr hfm
  unfold xValue
  unfold ev_ at *
  unfold M.kv at *
  generalize fitsL cols r = ft at *
  generalize xEval cols r m.t = rv at *
  generalize xType cols m.t = ty at *
  obtain ⟨k, y⟩ := ty
  obtain ⟨⟨rk, rn, rs⟩, ry⟩ := rv
  simp only at *
  have HT := Lib.hid HT
  have HF := Lib.hid HF
  have hE0 := (Ev.alloc w (.cells #[.int .i64 m.kind, .string ⟨m.s.toArray⟩, .int .i64 m.n, .slice m.A m.kids.length m.cap] 39)).trans (Ev.alloc _ (.cells #[.int .i64 0, .int .i64 0, .string ⟨#[]⟩] 25))
  have hX := (Bx.new 39 #[.int .i64 m.kind, .string ⟨m.s.toArray⟩, .int .i64 m.n, .slice m.A m.kids.length m.cap] w).ev (Ev.alloc _ (.cells #[.int .i64 0, .int .i64 0, .string ⟨#[]⟩] 25))
  have hB : Bx 25 (w.heap.size + 1) #[.int .i64 0, .int .i64 0, .string ⟨#[]⟩] ((w.alloc (.cells #[.int .i64 m.kind, .string ⟨m.s.toArray⟩, .int .i64 m.n, .slice m.A m.kids.length m.cap] 39)).alloc (.cells #[.int .i64 0, .int .i64 0, .string ⟨#[]⟩] 25)) := by
    have := vbox (w.alloc (.cells #[.int .i64 m.kind, .string ⟨m.s.toArray⟩, .int .i64 m.n, .slice m.A m.kids.length m.cap] 39))
    simpa using this
  obtain ⟨w0, hw0⟩ : ∃ w0, (w.alloc (.cells #[.int .i64 m.kind, .string ⟨m.s.toArray⟩, .int .i64 m.n, .slice m.A m.kids.length m.cap] 39)).alloc (.cells #[.int .i64 0, .int .i64 0, .string ⟨#[]⟩] 25) = w0 := ⟨_, rfl⟩
  rw [hw0] at hE0 hX hB
  have HE := Lib.hid hE0
  have HXB := Lib.hid hX
  have HB := Lib.hid hB
  obtain ⟨⟨c0, c1, c2, c3⟩, _⟩ := hX.four
  clear hL hC hV hsz hfr hfm hE0 hX hB
  by_cases hy : y = 0
  · subst hy
    simp only [beq_self_eq_true, Bool.true_and]
    cases ft with
    | true =>
      have hxx := fun w1 (hE : Ev w w1) => HX w1 hE rfl rfl
      have HXX := Lib.hid hxx
      clear hxx HX
      simp only [if_true]
      go_enter Try.func14, Try.ntmps14
      go_wp2_with (first
        | ((with_reducible refine (HT.out _ HE.out).mono ?_); rintro e w1 ⟨rfl, hE1⟩)
        | ((with_reducible refine (HF.out _ (HE.out.trans hE1)).mono ?_); rintro e w2 ⟨rfl, hE2⟩; obtain ⟨⟨c0, c1, c2, c3⟩, _⟩ := (HXB.out.ev (hE1.trans hE2)).four)
        | ((with_reducible refine (HXX.out _ ((HE.out.trans hE1).trans hE2)).mono ?_); rintro e w3 ⟨rfl, hE3⟩; have B1 := HB.out.ev ((hE1.trans hE2).trans hE3); have E1 := ((HE.out.trans hE1).trans hE2).trans hE3; obtain ⟨⟨c0, c1, c2⟩, f0, f1, f2⟩ := B1.three))
      (try simp only [Exit.inBlock, Exit.then])
      rw [set3_fold]
      refine bodyPost_ret (results_cellt rfl _ _ _ _ _ rfl (B1.set3 _ _ _) Try.underlying25 rfl Try.sizeVal) rfl ?_
      exact ⟨rfl, E1.box (set3_but _ _ _ _ _) (by omega)⟩
    | false =>
      clear HX
      simp only [Bool.false_eq_true, if_false]
      go_enter Try.func14, Try.ntmps14
      go_wp2_with (first
        | ((with_reducible refine (HT.out _ HE.out).mono ?_); rintro e w1 ⟨rfl, hE1⟩)
        | ((with_reducible refine (HF.out _ (HE.out.trans hE1)).mono ?_); rintro e w2 ⟨rfl, hE2⟩; have B1 := HB.out.ev (hE1.trans hE2); have E1 := (HE.out.trans hE1).trans hE2; obtain ⟨⟨c0, c1, c2⟩, f0, f1, f2⟩ := B1.three))
      (try simp only [Exit.inBlock, Exit.then])
      rw [set3_fold]
      refine bodyPost_ret (results_cellt rfl _ _ _ _ _ rfl (B1.set3 _ _ _) Try.underlying25 rfl Try.sizeVal) rfl ?_
      exact ⟨rfl, E1.box (set3_but _ _ _ _ _) (by omega)⟩
  · have hyb : (y == 0) = false := beq_eq_false_iff_ne.2 hy
    have hyn : (y != 0) = true := by simp [hy]
    rw [hyb]
    simp only [Bool.false_and, Bool.false_eq_true, if_false]
    clear HX
    go_enter Try.func14, Try.ntmps14
    go_wp2_with (first
      | ((with_reducible refine (HT.out _ HE.out).mono ?_); rintro e w1 ⟨rfl, hE1⟩; have B1 := HB.out.ev hE1; have E1 := HE.out.trans hE1; obtain ⟨⟨c0, c1, c2⟩, f0, f1, f2⟩ := B1.three))
    (try simp only [Exit.inBlock, Exit.then])
    rw [set3_fold]
    refine bodyPost_ret (results_cellt rfl _ _ _ _ _ rfl (B1.set3 _ _ _) Try.underlying25 rfl Try.sizeVal) rfl ?_
    exact ⟨rfl, E1.box (set3_but _ _ _ _ _) (by omega)⟩
end Go.Proofs.Ytgiofdmedhhobaa
