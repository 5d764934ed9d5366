/-
  Texts that belong together: The document's own expressions: Read. The document's own expressions: Right.
-/
import Derived.BigRegion
import Derived.Test.YtgiofdmedhhobaaZ16N
import Derived.Test.YtgiofdmedhhobaaZ6N
import Derived.Test.YtgiofdmedhhobaaZ15N
namespace Go.Proofs.Ytgiofdmedhhobaa
open Go.RowKit
set_option linter.unusedVariables false

theorem Try.sizeExpr : (Try.prog.info? 39).map (·.size) = some 4 := by kernel_rfl
/-- An expression and why there is none. -/
def RxOut (R : XRes) (w : World) (e : Ending) (w' : World) : Prop :=
  ∃ x : M, e = .returned (.tuple #[.agg #[.int .i64 x.kind, .string ⟨x.s.toArray⟩, .int .i64 x.n, .slice x.A x.kids.length x.cap], .int .i64 R.2.1, .int .i64 (R.2.2 : Int)]) ∧ x.t = R.1 ∧ Lx w.heap.size [] w' x ∧ Ev w w'
/-- In the midst of the operands: the expression's box is ge. -/
structure RxSt (w1 : World) (ge : Nat) (S : By) (A : Option Addr) (n cap : Nat) (L : List M) (w : World) : Prop where
  box : Bx 39 ge #[.int .i64 4, .string ⟨S.toArray⟩, .int .i64 0, .slice A n cap] w
  own : Ow 39 4 ec (ge + 1) w (.slice A n cap) L
  len : L.length = n
  lies : ∀ x ∈ L, Lx (ge + 1) (foot (.slice A n cap)) w x
  ev : Ev w1 w
  ge_ : w1.heap.size ≤ ge
theorem RxSt.init (w1 : World) (S : By) : RxSt w1 w1.heap.size S none 0 0 [] (w1.alloc (.cells #[.int .i64 4, .string ⟨S.toArray⟩, .int .i64 0, .slice none 0 0] 39)) :=
  ⟨Bx.new _ _ w1, Ow.nil_ _, rfl, (fun x hx => by cases hx), Ev.alloc _ _, Nat.le_refl _⟩
theorem RxSt.next {w1 wr wq w2 : World} {ge n cap : Nat} {S : By} {A : Option Addr} {L : List M} {x : M} {v2 : Value} (h : RxSt w1 ge S A n cap L wr) (hE : Ev wr wq) (hx : Lx wr.heap.size [] wq x) (hA : AppSt 39 4 ec (ge + 1) wq (.slice A n cap) (L ++ [x]) v2 w2) :
    ∃ A2 cap2, v2 = .slice A2 (n + 1) cap2 ∧ RxSt w1 ge S A2 (n + 1) cap2 (L ++ [x]) (w2.setCell ⟨ge, 3, none⟩ v2) := by
  obtain ⟨ho, hb, hs⟩ := hA
  obtain ⟨A2, cap2, rfl, hSl, hAd⟩ := ho.form encE
  have hl : (L ++ [x]).length = n + 1 := by rw [List.length_append, h.len]; rfl
  rw [hl] at ho hs hSl hAd ⊢
  have hgl := h.box.lt
  have hK : ge ∉ foot (.slice A n cap) := fun hm => by have := (h.own.lt (mem_foot.1 hm)).1; omega
  have hK2 : ∀ g, (Value.slice A2 (n + 1) cap2).ownBlock = some g → ge + 1 ≤ g := fun g hg => (ho.lt hg).1
  have hB2 : Bx 39 ge #[.int .i64 4, .string ⟨S.toArray⟩, .int .i64 0, .slice A n cap] w2 := (h.box.ev hE).but hb hK
  have hBS : But [ge] w2 (w2.setCell ⟨ge, 3, none⟩ (.slice A2 (n + 1) cap2)) := But.setCell _ _ (by simp)
  refine ⟨A2, cap2, rfl, ?_, ?_, hl, fun y hy => ?_, ?_, h.ge_⟩
  · have := hB2.set 3 (.slice A2 (n + 1) cap2)
    simpa using this
  · exact ho.but hBS fun g hg => by have := hK2 g hg; simp; omega
  · have hy2 : Lx (ge + 1) (foot (.slice A n cap)) wq y := by
      rcases List.mem_append.1 hy with h1 | h1
      · exact (h.lies y h1).ev hE
      · simp at h1
        subst h1
        refine (hx.less fun k hk => .inr (.inl ?_)).low (by omega)
        exact (h.own.lt (mem_foot.1 hk)).2
    have hy3 : Lx (ge + 1) (foot (.slice A2 (n + 1) cap2)) w2 y := hy2.move hb fun k hk => by
      rcases hs k (mem_foot.1 hk) with h1 | h1
      · exact .inl (mem_foot.2 h1)
      · exact .inr (.inr h1)
    have hy4 : Lx (ge + 1) (ge :: foot (.slice A2 (n + 1) cap2)) w2 y := hy3.less fun k hk => by
      rcases List.mem_cons.1 hk with rfl | h1
      · exact .inr (.inl (by omega))
      · exact .inl h1
    exact hy4.move (hBS.wide fun k hk => by simp at hk; subst hk; exact .inl (by simp)) fun k hk => .inl (List.mem_cons_of_mem _ hk)
  · have h1 : Ev w1 w2 := ((But.of_ev (h.ev.trans hE)).then hb).ev fun k hk => by have := (h.own.lt (mem_foot.1 hk)).1; have := h.ge_; omega
    exact h1.box hBS h.ge_
theorem RxSt.after {w1 wr wq w2 : World} {ge n cap : Nat} {S : By} {A : Option Addr} {L : List M} {L' : List M} {v2 : Value} (h : RxSt w1 ge S A n cap L wr) (hE : Ev wr wq) (hA : AppSt 39 4 ec (ge + 1) wq (.slice A n cap) L' v2 w2) :
    Bx 39 ge #[.int .i64 4, .string ⟨S.toArray⟩, .int .i64 0, .slice A n cap] w2 :=
  (h.box.ev hE).but hA.2.1 fun hm => by have := (h.own.lt (mem_foot.1 hm)).1; omega
theorem RxSt.done {w1 w : World} {ge n cap : Nat} {S : By} {A : Option Addr} {L : List M} (h : RxSt w1 ge S A n cap L w) {b0 : Nat} (hb : b0 ≤ ge) : Lx b0 [] w (.mk 4 S 0 A cap L 0) ∧ n = L.length := by
  obtain ⟨A2, cap2, hv, hSl, hAd⟩ := h.own.form encE
  injection hv with h1 h2 h3
  subst h1; subst h3
  refine ⟨.mk hSl (fun ad e => ⟨by have := (hAd ad e).2.1; omega, (hAd ad e).2.2.1, by simp⟩) fun k hk => ((h.lies k hk).less fun x hx => by cases hx).low (by omega), h2⟩
theorem mem_le_sum : ∀ {l : List Nat} {x : Nat}, x ∈ l → x ≤ l.sum
  | [], x, h => by cases h
  | y :: l, x, h => by
    rcases List.mem_cons.1 h with rfl | h
    · simp
    · have := mem_le_sum h
      simp
      omega
theorem xRead_eq (m : M) : xRead m.t = if m.kind == 2 then (if xName m.s then (.mk 1 m.s 0 [] 0, 0, 0) else xBad 20 m.pos)
    else if m.kind == 3 then (.mk 2 [] m.n [] 0, 0, 0)
    else if m.kind == 4 then (.mk 3 m.s 0 [] 0, 0, 0)
    else if m.kind == 1 then
      (match m.kids with
        | [] => xBad 12 m.pos
        | h :: q => if h.kind == 2 && !(xTakes h.s == 0) then
            (if q.length == xTakes h.s then xReads h.s [] (q.map fun x => xRead x.t) else xBad 23 m.pos) else xBad 12 m.pos)
    else xBad 12 m.pos := by
  cases hk : m.kids with
  | nil =>
    rw [M.t_eq, hk]
    rfl
  | cons h q =>
    rw [M.t_eq, hk]
    simp only [List.map_cons, xRead, M.t_kind, M.t_s, List.length_map, xReadAll_map, List.map_map]
    rfl

set_option maxRecDepth 100000 in
set_option maxHeartbeats 8000000 in
theorem rx_read (N : Nat) : ∀ (m : M) (b0 : Nat) (w : World), m.dep ≤ N → Lies b0 [] w m → m.t.every fairB = true → m.t.size ≤ 100000 → Calls Try.prog 10 #[mv m] w (RxOut (xRead m.t) w) := by
  induction N with
  | zero =>
    intro m b0 w hd
    rw [M.dep_eq] at hd
    omega
  | succ N ih =>
    intro m b0 w hd hL hfair hsz
    have hkl : m.kids.length ≤ 100000 := by
      have h1 := T.size_eq m.t
      have h2 := sum_len m.t.kids
      rw [M.t_kids, List.length_map] at h2
      rw [M.t_kids] at h1
      omega
    have HSZ := Lib.hid hsz
    have hke := xRead_eq m
    have hms := hL.ms
    have HIH := Lib.hid ih
    have HL := Lib.hid hL
    have HD := Lib.hid hd
    have HFAIR := Lib.hid hfair
    have hsl : m.s.length ≤ 100000 := by
      rw [T.every_eq, Bool.and_eq_true] at hfair
      have := hfair.1
      unfold fairB at this
      simp only [Bool.and_eq_true, decide_eq_true_iff, M.t_s] at this
      exact this.2
    obtain ⟨R, hR⟩ : ∃ R, R = xRead m.t := ⟨_, rfl⟩
    rw [← hR] at hke ⊢
    obtain ⟨kn, hkn⟩ : ∃ kn, kn = m.kids.length := ⟨_, rfl⟩
    unfold mv M.kv
    rw [← hkn] at hms hkl ⊢
    have HKN := Lib.hid hkn
    generalize hmA : m.A = mA at *
    generalize hmc : m.cap = mcap at *
    have HMS := Lib.hid hms
    have hE0 := (Ev.alloc w (.cells #[.int .i64 m.kind, .string ⟨m.s.toArray⟩, .int .i64 m.n, .slice mA kn mcap, .int .i64 (m.pos : Int)] 34)).trans (Ev.alloc _ (.cells #[.int .i64 0, .string ⟨#[]⟩, .int .i64 0, .slice none 0 0] 39))
    have hX := (Bx.new 34 #[.int .i64 m.kind, .string ⟨m.s.toArray⟩, .int .i64 m.n, .slice mA kn mcap, .int .i64 (m.pos : Int)] w).ev (Ev.alloc _ (.cells #[.int .i64 0, .string ⟨#[]⟩, .int .i64 0, .slice none 0 0] 39))
    have hB : Bx 39 (w.heap.size + 1) #[.int .i64 0, .string ⟨#[]⟩, .int .i64 0, .slice none 0 0] ((w.alloc (.cells #[.int .i64 m.kind, .string ⟨m.s.toArray⟩, .int .i64 m.n, .slice mA kn mcap, .int .i64 (m.pos : Int)] 34)).alloc (.cells #[.int .i64 0, .string ⟨#[]⟩, .int .i64 0, .slice none 0 0] 39)) := by
      have := Bx.new 39 #[.int .i64 0, .string ⟨#[]⟩, .int .i64 0, .slice none 0 0] (w.alloc (.cells #[.int .i64 m.kind, .string ⟨m.s.toArray⟩, .int .i64 m.n, .slice mA kn mcap, .int .i64 (m.pos : Int)] 34))
      simpa using this
    obtain ⟨w0, hw0⟩ : ∃ w0, (w.alloc (.cells #[.int .i64 m.kind, .string ⟨m.s.toArray⟩, .int .i64 m.n, .slice mA kn mcap, .int .i64 (m.pos : Int)] 34)).alloc (.cells #[.int .i64 0, .string ⟨#[]⟩, .int .i64 0, .slice none 0 0] 39) = w0 := ⟨_, rfl⟩
    rw [hw0] at hE0 hX hB
    have HE := Lib.hid hE0
    have HX := Lib.hid hX
    have HB := Lib.hid hB
    obtain ⟨⟨c0, c1, c2, c3, c4⟩, _⟩ := hX.five
    obtain ⟨⟨b0_, b1_, b2_, b3_⟩, g0_, g1_, g2_, g3_⟩ := hB.four
    clear ih hL hd hfair hkn hE0 hX hB hR hmA hmc hms
    by_cases k2 : m.kind = 2
    · rw [k2] at hke hw0 c0 ⊢
      simp only [beq_self_eq_true, if_true] at hke
      have HN := fun w1 => ref5_name (bstr m.s) w1 (by unfold maxLen; show m.s.toArray.size ≤ _; simp; omega)
      unfold bstr at HN
      rw [show xName m.s = nameV ⟨m.s.toArray⟩ from rfl] at hke
      cases hn : nameV ⟨m.s.toArray⟩ with
      | false =>
        rw [hn] at hke HN
        simp only [Bool.false_eq_true, if_false] at hke
        have HK := Lib.hid hke
        have HN := Lib.hid HN
        clear hke
        go_enter Try.func10, Try.ntmps10
        go_wp2_with (first | ((with_reducible refine (HN.out _).mono ?_); rintro e w1 ⟨rfl, hE1⟩; have E1 := HE.out.trans (hE1.trans (Ev.drew w1)); have B1 := HB.out.ev (hE1.trans (Ev.drew w1)); obtain ⟨⟨c0, c1, c2, c3, c4⟩, _⟩ := (HX.out.ev hE1).five; obtain ⟨⟨b0_, b1_, b2_, b3_⟩, g0_, g1_, g2_, g3_⟩ := (HB.out.ev hE1).four))
        go_region
        all_goals (
          go_wp2
          (try simp only [Exit.inBlock, Exit.then])
          rw [set4_fold]
          refine bodyPost_ret (results_cell2' rfl _ _ _ _ _ rfl (B1.set4 _ _ _ _) Try.underlying39 rfl Try.sizeExpr) rfl ?_
          exact ⟨mzero, by rw [HK.out]; rfl, by rw [HK.out]; rfl, Lx.leaf, E1.box (set4_but _ _ _ _ _ _) (by omega)⟩
          )
      | true =>
        rw [hn] at hke HN
        simp only [if_true] at hke
        have HK := Lib.hid hke
        have HN := Lib.hid HN
        clear hke
        go_enter Try.func10, Try.ntmps10
        go_wp2_with (first | ((with_reducible refine (HN.out _).mono ?_); rintro e w1 ⟨rfl, hE1⟩; have E1 := HE.out.trans hE1; have B1 := HB.out.ev hE1; obtain ⟨⟨c0, c1, c2, c3, c4⟩, _⟩ := (HX.out.ev hE1).five; obtain ⟨⟨b0_, b1_, b2_, b3_⟩, g0_, g1_, g2_, g3_⟩ := (HB.out.ev hE1).four))
        (try simp only [Exit.inBlock, Exit.then])
        rw [set4_fold]
        refine bodyPost_ret (results_cell2' rfl _ _ _ _ _ rfl (B1.set4 _ _ _ _) Try.underlying39 rfl Try.sizeExpr) rfl ?_
        exact ⟨(.mk 1 m.s 0 none 0 [] 0), by rw [HK.out]; rfl, by rw [HK.out]; simp [M.t, M.ts], Lx.leaf, E1.box (set4_but _ _ _ _ _ _) (by omega)⟩
    have k2' : (m.kind == 2) = false := beq_eq_false_iff_ne.2 k2
    rw [k2'] at hke
    by_cases k3 : m.kind = 3
    · rw [k3] at hke hw0 c0 ⊢
      have HK : Hid (R = (.mk 2 [] m.n [] 0, 0, 0)) := Lib.hid hke
      clear hke
      go_enter Try.func10, Try.ntmps10
      go_wp2
      (try simp only [Exit.inBlock, Exit.then])
      rw [set4_fold]
      refine bodyPost_ret (results_cell2' rfl _ _ _ _ _ rfl (HB.out.set4 _ _ _ _) Try.underlying39 rfl Try.sizeExpr) rfl ?_
      exact ⟨(.mk 2 [] m.n none 0 [] 0), by rw [HK.out]; rfl, by rw [HK.out]; simp [M.t, M.ts], Lx.leaf, HE.out.box (set4_but _ _ _ _ _ _) (by omega)⟩
    have k3' : (m.kind == 3) = false := beq_eq_false_iff_ne.2 k3
    rw [k3'] at hke
    by_cases k4 : m.kind = 4
    · rw [k4] at hke hw0 c0 ⊢
      have HK : Hid (R = (.mk 3 m.s 0 [] 0, 0, 0)) := Lib.hid hke
      clear hke
      go_enter Try.func10, Try.ntmps10
      go_wp2
      (try simp only [Exit.inBlock, Exit.then])
      rw [set4_fold]
      refine bodyPost_ret (results_cell2' rfl _ _ _ _ _ rfl (HB.out.set4 _ _ _ _) Try.underlying39 rfl Try.sizeExpr) rfl ?_
      exact ⟨(.mk 3 m.s 0 none 0 [] 0), by rw [HK.out]; rfl, by rw [HK.out]; simp [M.t, M.ts], Lx.leaf, HE.out.box (set4_but _ _ _ _ _ _) (by omega)⟩
    have k4' : (m.kind == 4) = false := beq_eq_false_iff_ne.2 k4
    rw [k4'] at hke
    by_cases k1 : m.kind = 1
    · rw [k1] at hke hw0 c0 ⊢
      have HX1 := HX.out
      rw [k1] at HX1
      have HX1 := Lib.hid HX1
      have hkl2 : kn ≤ 100000 := hkl
      cases hk : m.kids with
      | nil =>
        obtain rfl : kn = 0 := by rw [HKN.out, hk]; rfl
        rw [hk] at hke
        have HK : Hid (R = xBad 12 m.pos) := Lib.hid hke
        clear hke
        go_enter Try.func10, Try.ntmps10
        go_wp2
        go_region
        all_goals (
          go_wp2
          (try simp only [Exit.inBlock, Exit.then])
          rw [set4_fold]
          refine bodyPost_ret (results_cell2' rfl _ _ _ _ _ rfl ((HB.out.ev (Ev.drew w0)).set4 _ _ _ _) Try.underlying39 rfl Try.sizeExpr) rfl ?_
          exact ⟨mzero, by rw [HK.out]; rfl, by rw [HK.out]; rfl, Lx.leaf, (HE.out.trans (Ev.drew w0)).box (set4_but _ _ _ _ _ _) (by omega)⟩
          )
      | cons hm1 q =>
        have hknq : kn = q.length + 1 := by rw [HKN.out, hk]; rfl
        rw [hk] at hke
        obtain ⟨b, off, rfl, hb, h0, h1, _, _, _⟩ := HMS.out.cell (i := 0) (x := hm1) (by rw [hk]; rfl)
        simp only [Nat.zero_mul, Nat.add_zero] at h0 h1
        have HH : Hid (∀ w1, Ev w w1 → w1.cell? ⟨b, off, none⟩ = some (.int .i64 hm1.kind) ∧ w1.cell? ⟨b, off + 1, none⟩ = some (.string ⟨hm1.s.toArray⟩)) := Lib.hid fun w1 hE => ⟨(hE.cell (p := ⟨_, _, none⟩) hb).trans h0, (hE.cell (p := ⟨_, _, none⟩) hb).trans h1⟩
        clear h0 h1
        obtain ⟨h0, h1⟩ := HH.out _ HE.out
        have i0 : ¬ ((kn : Int) = 0) := by omega
        have i0' : ((kn : Int) == 0) = false := beq_eq_false_iff_ne.2 i0
        have i1 : (0 : Int) < (kn : Int) := by omega
        have HKQ := Lib.hid hknq
        have HKIDS := Lib.hid hk
        clear hknq hk
        by_cases hh : hm1.kind = 2
        · have hhb : (hm1.kind == 2) = true := beq_iff_eq.2 hh
          have hhn : (hm1.kind != 2) = false := by simp [hh]
          have HT := fun w1 => rf_takes hm1.s w1
          unfold bstr at HT
          obtain ⟨t, ht⟩ : ∃ t, t = xTakes hm1.s := ⟨_, rfl⟩
          simp only [hhb, Bool.true_and, beq_self_eq_true, if_true, Bool.false_eq_true, if_false] at hke
          rw [← ht] at HT hke
          have HTT := Lib.hid ht
          have HT := Lib.hid HT
          clear hh ht
          cases t with
          | zero =>
            have HK : Hid (R = xBad 12 m.pos) := Lib.hid hke
            clear hke
            go_enter Try.func10, Try.ntmps10
            go_wp2_with (first | ((with_reducible refine (HT.out _).mono ?_); rintro e w1 ⟨rfl, rfl⟩))
            go_region
            all_goals (
              go_wp2
              (try simp only [Exit.inBlock, Exit.then])
              rw [set4_fold]
              refine bodyPost_ret (results_cell2' rfl _ _ _ _ _ rfl ((HB.out.ev (Ev.drew w0)).set4 _ _ _ _) Try.underlying39 rfl Try.sizeExpr) rfl ?_
              exact ⟨mzero, by rw [HK.out]; rfl, by rw [HK.out]; rfl, Lx.leaf, (HE.out.trans (Ev.drew w0)).box (set4_but _ _ _ _ _ _) (by omega)⟩
              )
          | succ t =>
            rw [if_pos (by rfl)] at hke
            have hT2 := HT.out
            rw [show ((t + 1 : Nat) : Int) = (t : Int) + 1 by omega] at hT2
            clear HT
            have HT := Lib.hid hT2
            clear hT2
            have e1n : ¬ ((t : Int) + 1 = 0) := by omega
            have e1b : (((t : Int) + 1) == 0) = false := beq_eq_false_iff_ne.2 e1n
            by_cases hq : q.length = t + 1
            · rw [if_pos (by simp [hq])] at hke
              have HK := Lib.hid hke
              have hkt : (kn : Int) - 1 = (t : Int) + 1 := by have := HKQ.out; omega
              have hkt2 : kn = t + 2 := by have := HKQ.out; omega
              have HKT := Lib.hid hkt2
              have hktb : (((kn : Int) - 1) == ((t : Int) + 1)) = true := beq_iff_eq.2 hkt
              have hktn : (((kn : Int) - 1) != ((t : Int) + 1)) = false := by simp; exact hkt
              have HQ := Lib.hid hq
              clear hke hkt2 hkt hq
              go_enter Try.func10, Try.ntmps10
              go_wp2_with (first | ((with_reducible refine (HT.out _).mono ?_); rintro e w1 ⟨rfl, rfl⟩))
              go_quiet (first | (go_at_call 29; exact Calls.quiet_of_same ((HT.out _).mono fun _ _ hm1 => ⟨hm1.1, hm1.2.symm⟩)))
              generalize hwA : World.drewN w0 _ = wA
              have hEA : Ev w0 wA := hwA ▸ Ev.drewN w0 _
              have HEA := Lib.hid (HE.out.trans hEA)
              have HEA0 := Lib.hid hEA
              have HI0 := Lib.hid (RxSt.init wA hm1.s)
              clear hwA hEA c0 c1 c2 c3 c4 h0 h1
              obtain ⟨⟨c0, c1, c2, c3, c4⟩, _⟩ := (HX1.out.ev HEA0.out).five
              obtain ⟨h0, h1⟩ := HH.out _ HEA.out
              go_wp2
              go_loopw [6] (fun iv wr => ∃ (A : Option Addr) (n cap j : Nat) (L : List M), iv = .int .i64 ((j + 1 : Nat) : Int) ∧ j + 1 ≤ kn ∧ Hid (n = j) ∧ Hid (RxSt wA wA.heap.size hm1.s A n cap L wr) ∧ Hid (R = xReads hm1.s (L.map M.t) ((q.drop j).map fun x => xRead x.t))) (fun iv _ => kn - (intOf iv).toNat)
              case atStart => exact ⟨none, 0, 0, 0, [], rfl, by have := HKT.out; omega, Lib.hid rfl, HI0, HK⟩
              case round =>
                obtain ⟨A, n, cap, j, L, rfl, hj, HN, HS, HR⟩ := hrel
                have HEW := Lib.hid (HEA.out.trans HS.out.ev)
                have HEW0 := Lib.hid (HEA0.out.trans HS.out.ev)
                obtain ⟨⟨c0, c1, c2, c3, c4⟩, _⟩ := (HX1.out.ev HEW0.out).five
                obtain ⟨⟨b0_, b1_, b2_, b3_⟩, g0_, g1_, g2_, g3_⟩ := (HB.out.ev HEW0.out).four
                obtain ⟨⟨d0, d1, d2, d3⟩, r0, r1, r2, r3⟩ := HS.out.box.four
                by_cases hlt : j + 1 < kn
                · obtain ⟨x, hx⟩ : ∃ x, q[j]? = some x := ⟨_, List.getElem?_eq_getElem (by have := HKQ.out; omega)⟩
                  have hxm : m.kids[j + 1]? = some x := by rw [HKIDS.out]; simpa using hx
                  obtain ⟨b', off', he, _, x0, x1, x2, x3, x4⟩ := Ms.cell (HMS.out.ev HEW.out) hxm
                  injection he with he
                  injection he with he1 he2 _
                  subst he1
                  subst he2
                  have hdj : q.drop j = x :: q.drop (j + 1) := by
                    obtain ⟨hj', e⟩ := List.getElem?_eq_some_iff.1 hx
                    rw [List.drop_eq_getElem_cons hj', e]
                  have HR1 := HR.out
                  rw [hdj, List.map_cons] at HR1
                  unfold xReads at HR1
                  have hxk := List.mem_of_getElem? hxm
                  have hxf : x.t.every fairB = true := by
                    have h5 := HFAIR.out
                    rw [T.every_eq, Bool.and_eq_true] at h5
                    exact List.all_eq_true.1 h5.2 x.t (by rw [M.t_kids]; exact List.mem_map.2 ⟨x, hxk, rfl⟩)
                  have hxs : x.t.size ≤ 100000 := by
                    have h5 := T.size_eq m.t
                    rw [M.t_kids, List.map_map] at h5
                    have h6 := mem_le_sum (List.mem_map.2 ⟨x, hxk, rfl⟩ : x.t.size ∈ m.kids.map (T.size ∘ M.t))
                    have := HSZ.out
                    omega
                  have HI := fun w1 (hE : Ev w w1) => HIH.out x b0 w1 (by have := M.kid_dep hxk; have := HD.out; omega) ((HL.out.kid x hxk).ev hE) hxf hxs
                  unfold mv M.kv RxOut at HI
                  unfold M.kv at x3
                  generalize xRead x.t = rx at *
                  obtain ⟨rt, ry, rp⟩ := rx
                  simp only at HR1 HI
                  have HI := Lib.hid HI
                  have HNN := HN.out
                  subst HNN
                  have hnb : n ≤ 200000 := by omega
                  have HLL := Lib.hid HS.out.len
                  have i2 : ((n : Int) + 1) < (kn : Int) := by omega
                  have i3 : (0 : Int) ≤ (n : Int) + 1 := by omega
                  clear hx hxm hdj hxk hxf hxs HN
                  by_cases hw : ry = 0
                  · subst hw
                    rw [if_pos (by rfl)] at HR1
                    have HR2 := Lib.hid HR1
                    clear HR1
                    go_wp2_with (first
                      | ((with_reducible refine (HI.out _ HEW.out).mono ?_); rintro e w1 ⟨x', rfl, hxt, hxl, hE1⟩; have HXT := Lib.hid hxt; have HXL := Lib.hid hxl; have E1 := Lib.hid hE1; obtain ⟨⟨d0, d1, d2, d3⟩, r0, r1, r2, r3⟩ := (HS.out.box.ev (hE1.trans (Ev.alloc w1 (.cells #[.int .i64 x'.kind, .string ⟨x'.s.toArray⟩, .int .i64 x'.n, .slice x'.A x'.kids.length x'.cap] 39)))).four; clear hxt hxl)
                      | ((show wpList _ _ _ (⟨some 109, _, _, _, _, _⟩ :: _) _ _); refine wpList_append_ow (o := ⟨some 109, _, _, _, _, _⟩) rfl 37 (.tmp 106) (.tmp 108) rfl encE Try.underlying37 Try.infoExpr rfl rfl (HS.out.own.ev (E1.out.trans ((Ev.alloc w1 _).trans (Ev.alloc _ _)))) (some ⟨w1.heap.size + 1, 0, none⟩) 1 1 [x'] rfl (by have := Sl.one (et := 39) encE (w1.alloc (.cells #[.int .i64 x'.kind, .string ⟨x'.s.toArray⟩, .int .i64 x'.n, .slice x'.A x'.kids.length x'.cap] 39)) x' #[.int .i64 x'.kind, .string ⟨x'.s.toArray⟩, .int .i64 x'.n, .slice x'.A x'.kids.length x'.cap] rfl; simpa using this) (by rw [HLL.out]; simp; omega) (by rw [HLL.out]; simp; omega) (by have h7 := HS.out.box.lt; have h8 := (E1.out.trans ((Ev.alloc w1 (.cells #[.int .i64 x'.kind, .string ⟨x'.s.toArray⟩, .int .i64 x'.n, .slice x'.A x'.kids.length x'.cap] 39)).trans (Ev.alloc _ (.cells #[.int .i64 x'.kind, .string ⟨x'.s.toArray⟩, .int .i64 x'.n, .slice x'.A x'.kids.length x'.cap] 39)))).size; omega) ?_; intro v2 w2 hA2; obtain ⟨⟨d0, d1, d2, d3⟩, r0, r1, r2, r3⟩ := (HS.out.after (E1.out.trans ((Ev.alloc w1 _).trans (Ev.alloc _ _))) hA2).four; obtain ⟨A2, cap2, rfl, ST2⟩ := HS.out.next (E1.out.trans ((Ev.alloc w1 _).trans (Ev.alloc _ _))) (HXL.out.ev ((Ev.alloc w1 _).trans (Ev.alloc _ _))) hA2))
                    go_roundw
                    case rel => exact ⟨A2, n + 1, cap2, n + 1, L ++ [x'], by go_num, by omega, Lib.hid rfl, Lib.hid ST2, Lib.hid (by rw [HR2.out, List.map_append, List.map_cons, List.map_nil, HXT.out])⟩
                    case measure => simp [intOf]; omega
                  · have hwb : (ry == 0) = false := beq_eq_false_iff_ne.2 hw
                    have hwn : (ry != 0) = true := by simp [hw]
                    rw [hwb] at HR1
                    simp only [Bool.false_eq_true, if_false] at HR1
                    have HR2 := Lib.hid HR1
                    clear HR1
                    go_wp2_with (first
                      | ((with_reducible refine (HI.out _ HEW.out).mono ?_); rintro e w1 ⟨x', rfl, hxt, hxl, hE1⟩; have E1 := HEW.out.trans (hE1.trans (Ev.alloc w1 (.cells #[.int .i64 x'.kind, .string ⟨x'.s.toArray⟩, .int .i64 x'.n, .slice x'.A x'.kids.length x'.cap] 39))); have B1 := HB.out.ev (HEW0.out.trans (hE1.trans (Ev.alloc w1 (.cells #[.int .i64 x'.kind, .string ⟨x'.s.toArray⟩, .int .i64 x'.n, .slice x'.A x'.kids.length x'.cap] 39)))); obtain ⟨⟨b0_, b1_, b2_, b3_⟩, g0_, g1_, g2_, g3_⟩ := B1.four))
                    (try simp only [Exit.inBlock, Exit.then])
                    rw [set4_fold]
                    refine bodyPost_ret (results_cell2' rfl _ _ _ _ _ rfl (B1.set4 _ _ _ _) Try.underlying39 rfl Try.sizeExpr) rfl ?_
                    exact ⟨mzero, by rw [HR2.out]; rfl, by rw [HR2.out]; rfl, Lx.leaf, E1.box (set4_but _ _ _ _ _ _) (by omega)⟩
                · have hjk : j + 1 = kn := by omega
                  have i2 : ¬ ((j : Int) + 1 < (kn : Int)) := by omega
                  have HR1 := HR.out
                  rw [List.drop_of_length_le (by have := HKQ.out; omega)] at HR1
                  simp only [List.map_nil, xReads] at HR1
                  have HR2 := Lib.hid HR1
                  obtain ⟨hlx, hnl⟩ := HS.out.done (b0 := w.heap.size) (Nat.le_trans HEA.out.size (Nat.le_refl _))
                  have hlg := (HS.out.done (b0 := wA.heap.size) (Nat.le_refl _)).1
                  have HLXG := Lib.hid (hlg.less (K' := [w.heap.size + 1]) fun k hk => by simp at hk; subst hk; exact .inr (.inl (by have h5 := HEA0.out.size; have h6 := HB.out.lt; omega)))
                  clear hlg
                  have HNL := Lib.hid hnl
                  have hgew : w.heap.size + 1 < wA.heap.size := by
                    have h5 := HEA0.out.size
                    have h6 := HB.out.lt
                    omega
                  clear HR1 hjk hlx hnl
                  go_wp2
                  (try simp only [Exit.inBlock, Exit.then])
                  rw [set4_fold]
                  refine bodyPost_ret (results_cell2' rfl _ _ _ _ _ rfl ((HB.out.ev HEW0.out).set4 _ _ _ _) Try.underlying39 rfl Try.sizeExpr) rfl ?_
                  refine ⟨.mk 4 hm1.s 0 A cap L 0, by rw [HR2.out]; simp only [M.kids]; rw [← HNL.out]; rfl, by rw [HR2.out]; simp [M.t, M.ts_map], ?_, HEW.out.box (set4_but _ _ _ _ _ _) (by omega)⟩
                  exact (HLXG.out.move (set4_but _ _ _ _ _ _) fun k hk => by cases hk).low (by omega)
            · rw [if_neg (by simp; exact hq)] at hke
              have HK : Hid (R = xBad 23 m.pos) := Lib.hid hke
              have hkt : ¬ ((kn : Int) - 1 = (t : Int) + 1) := by have := HKQ.out; omega
              have hktb : (((kn : Int) - 1) == ((t : Int) + 1)) = false := beq_eq_false_iff_ne.2 hkt
              have hktn : (((kn : Int) - 1) != ((t : Int) + 1)) = true := by simp; exact hkt
              clear hke
              go_enter Try.func10, Try.ntmps10
              go_wp2_with (first | ((with_reducible refine (HT.out _).mono ?_); rintro e w1 ⟨rfl, rfl⟩))
              go_quiet (first | (go_at_call 29; exact Calls.quiet_of_same ((HT.out _).mono fun _ _ hm1 => ⟨hm1.1, hm1.2.symm⟩)))
              go_wp2
              go_region
              all_goals (
                go_wp2
                (try simp only [Exit.inBlock, Exit.then])
                rw [set4_fold]
                refine bodyPost_ret (results_cell2' rfl _ _ _ _ _ rfl ((HB.out.ev ((Ev.drewN w0 _).trans (Ev.drew _))).set4 _ _ _ _) Try.underlying39 rfl Try.sizeExpr) rfl ?_
                exact ⟨mzero, by rw [HK.out]; rfl, by rw [HK.out]; rfl, Lx.leaf, (HE.out.trans ((Ev.drewN w0 _).trans (Ev.drew _))).box (set4_but _ _ _ _ _ _) (by omega)⟩
                )
        · have hhb : (hm1.kind == 2) = false := beq_eq_false_iff_ne.2 hh
          have hhn : (hm1.kind != 2) = true := by simp [hh]
          simp only [hhb, Bool.false_and, Bool.false_eq_true, if_false, beq_self_eq_true, if_true] at hke
          have HK : Hid (R = xBad 12 m.pos) := Lib.hid hke
          clear hke
          go_enter Try.func10, Try.ntmps10
          go_wp2
          go_region
          all_goals (
            go_wp2
            (try simp only [Exit.inBlock, Exit.then])
            rw [set4_fold]
            refine bodyPost_ret (results_cell2' rfl _ _ _ _ _ rfl ((HB.out.ev (Ev.drew w0)).set4 _ _ _ _) Try.underlying39 rfl Try.sizeExpr) rfl ?_
            exact ⟨mzero, by rw [HK.out]; rfl, by rw [HK.out]; rfl, Lx.leaf, (HE.out.trans (Ev.drew w0)).box (set4_but _ _ _ _ _ _) (by omega)⟩
            )
    · have k1' : (m.kind == 1) = false := beq_eq_false_iff_ne.2 k1
      have k1n : (m.kind != 1) = true := by simp [k1]
      rw [k1'] at hke
      have HK : Hid (R = xBad 12 m.pos) := Lib.hid hke
      clear hke
      go_enter Try.func10, Try.ntmps10
      go_wp2
      go_region
      all_goals (
        go_wp2
        (try simp only [Exit.inBlock, Exit.then])
        rw [set4_fold]
        refine bodyPost_ret (results_cell2' rfl _ _ _ _ _ rfl ((HB.out.ev (Ev.drew w0)).set4 _ _ _ _) Try.underlying39 rfl Try.sizeExpr) rfl ?_
        exact ⟨mzero, by rw [HK.out]; rfl, by rw [HK.out]; rfl, Lx.leaf, (HE.out.trans (Ev.drew w0)).box (set4_but _ _ _ _ _ _) (by omega)⟩
        )
end Go.Proofs.Ytgiofdmedhhobaa

namespace Go.Proofs.Ytgiofdmedhhobaa
open Go.RowKit
set_option linter.unusedVariables false

theorem xRight_m (m : M) : xRight m.t = (!xForeignP m.kind m.s m.n m.kids.length && m.kids.all fun x => xRight x.t) := by
  have h : xRight m.t = (!xForeign m.t && xRights (m.kids.map M.t)) := by
    rw [M.t_eq, xRight]
  rw [h, xForeign_p, xRights_all, List.all_map]
  rfl
/-- What Right gives for expressions that are no deeper. -/
def RightAt (N : Nat) : Prop := ∀ (m : M) (b0 : Nat) (w : World), m.dep ≤ N → Lx b0 [] w m → m.t.every fairB = true → m.t.size ≤ 100000 →
  Calls Try.prog 32 #[.agg #[.int .i64 m.kind, .string ⟨m.s.toArray⟩, .int .i64 m.n, .slice m.A m.kids.length m.cap]] w fun e w' => e = .returned (.bool (xRight m.t)) ∧ Ev w w'

set_option maxRecDepth 100000 in
set_option maxHeartbeats 8000000 in
theorem rx_right (N : Nat) : RightAt N := by
  induction N with
  | zero =>
    intro m b0 w hd
    rw [M.dep_eq] at hd
    omega
  | succ N ih =>
    intro m b0 w hd hL hfair hsz
    have hke := xRight_m m
    have hsl : m.s.length ≤ 100000 := by
      rw [T.every_eq, Bool.and_eq_true] at hfair
      have := hfair.1
      unfold fairB at this
      simp only [Bool.and_eq_true, decide_eq_true_iff, M.t_s] at this
      exact this.2
    unfold RightAt at ih
    have HIH := Lib.hid ih
    have HL := Lib.hid hL
    have HD := Lib.hid hd
    have HFAIR := Lib.hid hfair
    have HSZ := Lib.hid hsz
    have hes := hL.es
    obtain ⟨R, hR⟩ : ∃ R, R = xRight m.t := ⟨_, rfl⟩
    rw [← hR] at hke ⊢
    obtain ⟨kn, hkn⟩ : ∃ kn, kn = m.kids.length := ⟨_, rfl⟩
    rw [← hkn] at hes hke ⊢
    have HKN := Lib.hid hkn
    generalize hmA : m.A = mA at *
    generalize hmc : m.cap = mcap at *
    have hcm := hes.max
    have hcl := hes.le
    have HES := Lib.hid hes
    have hE0 := Ev.alloc w (.cells #[.int .i64 m.kind, .string ⟨m.s.toArray⟩, .int .i64 m.n, .slice mA kn mcap] 39)
    have hX := Bx.new 39 #[.int .i64 m.kind, .string ⟨m.s.toArray⟩, .int .i64 m.n, .slice mA kn mcap] w
    obtain ⟨w0, hw0⟩ : ∃ w0, w.alloc (.cells #[.int .i64 m.kind, .string ⟨m.s.toArray⟩, .int .i64 m.n, .slice mA kn mcap] 39) = w0 := ⟨_, rfl⟩
    rw [hw0] at hE0 hX
    have HE := Lib.hid hE0
    have HX := Lib.hid hX
    obtain ⟨⟨c0, c1, c2, c3⟩, _⟩ := hX.four
    clear ih hL hd hfair hsz hkn hE0 hX hR hmA hmc hes
    have HNIL : Hid (kn = 0 → (m.kids.all fun x => xRight x.t) = true) := Lib.hid fun h => by
      have : m.kids = [] := List.eq_nil_of_length_eq_zero (by rw [← HKN.out]; exact h)
      rw [this]; rfl
    by_cases k1 : m.kind = 1
    · have k1b : (m.kind == 1) = true := beq_iff_eq.2 k1
      unfold xForeignP at hke
      rw [k1b] at hke
      simp only [if_true] at hke
      have HN := fun w1 => ref5_name (bstr m.s) w1 (by unfold maxLen; show m.s.toArray.size ≤ _; simp; omega)
      unfold bstr at HN
      rw [show xName m.s = nameV ⟨m.s.toArray⟩ from rfl] at hke
      clear k1
      cases hn : nameV ⟨m.s.toArray⟩ with
      | false =>
        rw [hn] at hke HN
        have HK : Hid (R = false) := Lib.hid (by rw [hke]; rfl)
        have HN := Lib.hid HN
        clear hke hn
        go_enter Try.func32, Try.ntmps32
        go_wp2_with (first | ((with_reducible refine (HN.out _).mono ?_); rintro e w1 ⟨rfl, hE1⟩))
        go_ret
        exact ⟨by rw [HK.out]; rfl, HE.out.trans hE1⟩
      | true =>
        rw [hn] at hke HN
        have HN := Lib.hid HN
        by_cases h0 : m.n = 0
        · have h0b : (m.n == 0) = true := beq_iff_eq.2 h0
          rw [h0b] at hke
          have HK : Hid (R = decide ((kn : Int) = 0)) := Lib.hid (by
            rw [hke]
            by_cases hz : kn = 0
            · rw [HNIL.out hz, hz]; rfl
            · rw [decide_eq_true (show 0 < kn by omega), decide_eq_false (show ¬ (kn : Int) = 0 by omega)]; rfl)
          clear hke hn h0
          go_enter Try.func32, Try.ntmps32
          go_wp2_with (first | ((with_reducible refine (HN.out _).mono ?_); rintro e w1 ⟨rfl, hE1⟩; obtain ⟨⟨c0, c1, c2, c3⟩, _⟩ := (HX.out.ev hE1).four))
          go_ret
          exact ⟨by rw [HK.out]; rfl, HE.out.trans hE1⟩
        · have h0b : (m.n == 0) = false := beq_eq_false_iff_ne.2 h0
          rw [h0b] at hke
          have HK : Hid (R = false) := Lib.hid (by rw [hke]; rfl)
          clear hke hn
          go_enter Try.func32, Try.ntmps32
          go_wp2_with (first | ((with_reducible refine (HN.out _).mono ?_); rintro e w1 ⟨rfl, hE1⟩; obtain ⟨⟨c0, c1, c2, c3⟩, _⟩ := (HX.out.ev hE1).four))
          go_ret
          exact ⟨by rw [HK.out]; rfl, HE.out.trans hE1⟩
    have k1' : (m.kind == 1) = false := beq_eq_false_iff_ne.2 k1
    by_cases k2 : m.kind = 2
    · have k2b : (m.kind == 2) = true := beq_iff_eq.2 k2
      unfold xForeignP at hke
      rw [k1', k2b] at hke
      simp only [Bool.false_eq_true, if_false, if_true] at hke
      clear k1 k2
      by_cases hs : m.s = []
      · rw [hs] at hke c1 hw0
        have HK : Hid (R = decide ((kn : Int) = 0)) := Lib.hid (by
          rw [hke]
          by_cases hz : kn = 0
          · rw [HNIL.out hz, hz]; rfl
          · rw [decide_eq_true (show 0 < kn by omega), decide_eq_false (show ¬ (kn : Int) = 0 by omega)]; rfl)
        rw [hs]
        clear hke hs
        go_enter Try.func32, Try.ntmps32
        go_wp2
        go_ret
        exact ⟨by rw [HK.out]; rfl, HE.out⟩
      · have hsb : (!m.s.isEmpty) = true := by cases hq : m.s with
          | nil => exact absurd hq hs
          | cons c q => rfl
        have hsn : m.s.isEmpty = false := by simpa using hsb
        rw [hsb] at hke
        have HK : Hid (R = false) := Lib.hid (by rw [hke]; rfl)
        clear hke
        go_enter Try.func32, Try.ntmps32
        go_wp2
        go_ret
        exact ⟨by rw [HK.out]; rfl, HE.out⟩
    have k2' : (m.kind == 2) = false := beq_eq_false_iff_ne.2 k2
    by_cases k3 : m.kind = 3
    · have k3b : (m.kind == 3) = true := beq_iff_eq.2 k3
      unfold xForeignP at hke
      rw [k1', k2', k3b] at hke
      simp only [Bool.false_eq_true, if_false, if_true] at hke
      clear k1 k2 k3
      by_cases h0 : m.n = 0
      · have h0b : (m.n == 0) = true := beq_iff_eq.2 h0
        rw [h0b] at hke
        have HK : Hid (R = decide ((kn : Int) = 0)) := Lib.hid (by
          rw [hke]
          by_cases hz : kn = 0
          · rw [HNIL.out hz, hz]; rfl
          · rw [decide_eq_true (show 0 < kn by omega), decide_eq_false (show ¬ (kn : Int) = 0 by omega)]; rfl)
        clear hke h0
        go_enter Try.func32, Try.ntmps32
        go_wp2
        go_ret
        exact ⟨by rw [HK.out]; rfl, HE.out⟩
      · have h0b : (m.n == 0) = false := beq_eq_false_iff_ne.2 h0
        rw [h0b] at hke
        have HK : Hid (R = false) := Lib.hid (by rw [hke]; rfl)
        clear hke
        go_enter Try.func32, Try.ntmps32
        go_wp2
        go_ret
        exact ⟨by rw [HK.out]; rfl, HE.out⟩
    have k3' : (m.kind == 3) = false := beq_eq_false_iff_ne.2 k3
    by_cases k4 : m.kind = 4
    · have k4b : (m.kind == 4) = true := beq_iff_eq.2 k4
      unfold xForeignP at hke
      rw [k1', k2', k3', k4b] at hke
      simp only [Bool.false_eq_true, if_false, if_true] at hke
      have HT := fun w1 => rf_takes m.s w1
      unfold bstr at HT
      obtain ⟨t, ht⟩ : ∃ t, t = xTakes m.s := ⟨_, rfl⟩
      rw [← ht] at HT hke
      have HT := Lib.hid HT
      have htk : t ≤ 3 := by rw [ht]; unfold xTakes; split <;> (try split) <;> (try split) <;> omega
      clear k1 k2 k3 k4 ht
      by_cases h0 : m.n = 0
      · have h0b : (m.n == 0) = true := beq_iff_eq.2 h0
        have h0n : (m.n != 0) = false := by simp [h0]
        rw [h0b] at hke
        by_cases hz : t = 0
        · subst hz
          have HK : Hid (R = false) := Lib.hid (by rw [hke]; rfl)
          clear hke h0
          go_enter Try.func32, Try.ntmps32
          go_wp2_with fail
          go_quiet (first | (go_at_call 29; exact Calls.quiet_of_same ((HT.out _).mono fun _ _ h => ⟨h.1, h.2.symm⟩)))
          go_wp2
          go_ret
          exact ⟨by rw [HK.out]; rfl, HE.out.trans (Ev.drewN _ _)⟩
        · have z1 : ¬ ((t : Int) = 0) := by omega
          have z2 : ((t : Int) == 0) = false := beq_eq_false_iff_ne.2 z1
          have htb : (t == 0) = false := beq_eq_false_iff_ne.2 hz
          rw [htb] at hke
          by_cases hq : kn = t
          · have hqb : (kn == t) = true := beq_iff_eq.2 hq
            have hqi : ((kn : Int) != (t : Int)) = false := by simp; omega
            rw [hqb] at hke
            have HK : Hid (R = m.kids.all fun x => xRight x.t) := Lib.hid (by rw [hke]; rfl)
            have HQ := Lib.hid hq
            clear hke hq h0 hz
            go_enter Try.func32, Try.ntmps32
            go_wp2_with fail
            go_quiet (first | (go_at_call 29; exact Calls.quiet_of_same ((HT.out _).mono fun _ _ h => ⟨h.1, h.2.symm⟩)))
            generalize hwA : World.drewN w0 _ = wA
            have HEA := Lib.hid (show Ev w0 wA from hwA ▸ Ev.drewN w0 _)
            clear hwA
            go_wp2
            go_loopw [3] (fun iv wr => ∃ q : Nat, q ≤ kn ∧ iv = .int .i64 (q : Int) ∧ Ev wA wr ∧ Hid (((m.kids.take q).all fun x => xRight x.t) = true)) (fun iv _ => kn - (intOf iv).toNat)
            case atStart => exact ⟨0, Nat.zero_le _, rfl, Ev.refl _, Lib.hid rfl⟩
            case round =>
              obtain ⟨q, hq, rfl, hE, HALL⟩ := hrel
              have HEW := Lib.hid ((HE.out.trans HEA.out).trans hE)
              obtain ⟨⟨c0, c1, c2, c3⟩, _⟩ := (HX.out.ev (HEA.out.trans hE)).four
              by_cases hlt : q < kn
              · obtain ⟨x, hx⟩ := HES.out.at hlt
                obtain ⟨b, off, rfl, hbl, e0, e1, e2, e3⟩ := Es.cell (HES.out.ev HEW.out) hx
                unfold M.kv at e3
                have hxk := List.mem_of_getElem? hx
                have hxf : x.t.every fairB = true := by
                  have h5 := HFAIR.out
                  rw [T.every_eq, Bool.and_eq_true] at h5
                  exact List.all_eq_true.1 h5.2 x.t (by rw [M.t_kids]; exact List.mem_map.2 ⟨x, hxk, rfl⟩)
                have hxs : x.t.size ≤ 100000 := by
                  have h5 := T.size_eq m.t
                  rw [M.t_kids, List.map_map] at h5
                  have h6 := mem_le_sum (List.mem_map.2 ⟨x, hxk, rfl⟩ : x.t.size ∈ m.kids.map (T.size ∘ M.t))
                  have := HSZ.out
                  omega
                have HI := fun w1 (hE : Ev w w1) => HIH.out x b0 w1 (by have := M.kid_dep hxk; have := HD.out; omega) ((HL.out.kid x hxk).ev hE) hxf hxs
                have HTK : Hid (((m.kids.take (q + 1)).all fun x => xRight x.t) = xRight x.t) := Lib.hid (by
                  obtain ⟨hk2, e⟩ := List.getElem?_eq_some_iff.1 hx
                  rw [List.take_succ_eq_append_getElem hk2, List.all_append, HALL.out, e]
                  simp)
                have HXM := Lib.hid hxk
                have j1 : (0 : Int) ≤ (q : Int) := by omega
                have j2 : (q : Int) < (kn : Int) := by omega
                clear hx hxk hxf hxs
                generalize hxr : xRight x.t = xr at *
                have HXR := Lib.hid hxr
                have HI := Lib.hid HI
                clear hxr
                cases xr with
                | true =>
                  go_wp2_with (first | ((with_reducible refine (HI.out _ HEW.out).mono ?_); rintro r w9 ⟨rfl, hE9⟩))
                  go_roundw
                  case rel => exact ⟨q + 1, by omega, by go_num, hE.trans hE9, HTK⟩
                  case measure => simp [intOf]; omega
                | false =>
                  have HKF : Hid (R = false) := Lib.hid (by
                    rw [HK.out, List.all_eq_false]
                    exact ⟨x, HXM.out, by rw [HXR.out]; decide⟩)
                  go_wp2_with (first | ((with_reducible refine (HI.out _ HEW.out).mono ?_); rintro r w9 ⟨rfl, hE9⟩))
                  go_ret
                  exact ⟨by rw [HKF.out]; rfl, HEW.out.trans hE9⟩
              · have hqn : q = kn := by omega
                have j2 : ¬ ((q : Int) < (kn : Int)) := by omega
                have HKT : Hid (R = true) := Lib.hid (by
                  have := HALL.out
                  rw [hqn, HKN.out, List.take_length] at this
                  rw [HK.out, this])
                clear hqn
                go_wp2
                go_ret
                exact ⟨by rw [HKT.out]; rfl, HEW.out⟩
          · have hqb : (kn == t) = false := beq_eq_false_iff_ne.2 hq
            have hqi : ((kn : Int) != (t : Int)) = true := by simp; omega
            rw [hqb] at hke
            have HK : Hid (R = false) := Lib.hid (by rw [hke]; rfl)
            clear hke h0
            go_enter Try.func32, Try.ntmps32
            go_wp2_with fail
            go_quiet (first | (go_at_call 29; exact Calls.quiet_of_same ((HT.out _).mono fun _ _ h => ⟨h.1, h.2.symm⟩)))
            go_wp2
            go_ret
            exact ⟨by rw [HK.out]; rfl, HE.out.trans (Ev.drewN _ _)⟩
      · have h0b : (m.n == 0) = false := beq_eq_false_iff_ne.2 h0
        have h0n : (m.n != 0) = true := by simp [h0]
        rw [h0b] at hke
        have HK : Hid (R = false) := Lib.hid (by
          rw [hke]
          cases (t == 0) <;> rfl)
        clear hke
        go_enter Try.func32, Try.ntmps32
        go_wp2_with fail
        go_quiet (first | (go_at_call 29; exact Calls.quiet_of_same ((HT.out _).mono fun _ _ h => ⟨h.1, h.2.symm⟩)))
        go_wp2
        go_ret
        exact ⟨by rw [HK.out]; rfl, HE.out.trans (Ev.drewN _ _)⟩
    · have k4' : (m.kind == 4) = false := beq_eq_false_iff_ne.2 k4
      unfold xForeignP at hke
      rw [k1', k2', k3', k4'] at hke
      have HK : Hid (R = false) := Lib.hid (by rw [hke]; rfl)
      clear hke
      go_enter Try.func32, Try.ntmps32
      go_wp2
      go_ret
      exact ⟨by rw [HK.out]; rfl, HE.out⟩
end Go.Proofs.Ytgiofdmedhhobaa
