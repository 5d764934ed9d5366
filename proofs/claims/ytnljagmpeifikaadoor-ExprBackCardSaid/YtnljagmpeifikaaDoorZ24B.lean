/-
  Texts that belong together: Package expr: Read. The fixed texts of the laws, read. The columns that the laws ask; what the fixed expressions are worth. Chapter 8's runs ('known'); Eval and Type of an expression that is known.
-/
import Derived.Test.YtnljagmpeifikaaDoorZ23B
import Derived.KernelRfl
import Derived.Test.YtnljagmpeifikaaDoorZ9B
import Derived.Test.YtnljagmpeifikaaDoorZ19B
import Derived.Test.YtnljagmpeifikaaDoorZ5B
import Derived.Test.YtnljagmpeifikaaDoorZ0B
namespace Go.Proofs.YtnljagmpeifikaaDoor
open Go.RowKit
set_option linter.unusedVariables false

/-- What read gives for trees that are no deeper. -/
def ReadAt (N : Nat) : Prop := ∀ (m : M) (b0 : Nat) (w : World), m.dep ≤ N → Lies b0 [] w m → m.t.every fairB = true → m.t.size ≤ 16000 →
  Calls Tryd.prog 23 #[.agg #[.int .i64 m.kind, .string ⟨m.s.toArray⟩, .int .i64 m.n, .slice m.A m.kids.length m.cap, .int .i64 (m.pos : Int)]] w (RxOut (xRead m.t) w)

set_option maxRecDepth 100000 in
set_option maxHeartbeats 16000000 in
theorem ex_readApply (N : Nat) (ih : ReadAt N) (m : M) (b0 : Nat) (w : World) (hd : m.dep ≤ N + 1) (hL : Lies b0 [] w m) (hfair : m.t.every fairB = true) (hsz : m.t.size ≤ 16000) (hk1 : m.kind = 1) :
    Calls Tryd.prog 35 #[.agg #[.int .i64 m.kind, .string ⟨m.s.toArray⟩, .int .i64 m.n, .slice m.A m.kids.length m.cap, .int .i64 (m.pos : Int)]] w (RxOut (xRead m.t) w) := by
  have hkl : m.kids.length ≤ 16000 := by
    have h1 := T.size_eq m.t
    have h2 := sum_len m.t.kids
    rw [M.t_kids, List.length_map] at h2
    rw [M.t_kids] at h1
    omega
  have HSZ := Lib.hid hsz
  have hke := xRead_eq m
  rw [hk1] at hke
  have hms := hL.ms
  unfold ReadAt at ih
  have HIH := Lib.hid ih
  have HL := Lib.hid hL
  have HD := Lib.hid hd
  have HFAIR := Lib.hid hfair
  have hwr := fun why w1 => ex_wrong why m w1
  rw [hk1] at hwr ⊢
  have HWR := Lib.hid hwr
  clear hwr
  obtain ⟨R, hR⟩ : ∃ R, R = xRead m.t := ⟨_, rfl⟩
  rw [← hR] at hke ⊢
  obtain ⟨kn, hkn⟩ : ∃ kn, kn = m.kids.length := ⟨_, rfl⟩
  rw [← hkn] at hms hkl HWR ⊢
  have HKN := Lib.hid hkn
  generalize hmA : m.A = mA at *
  generalize hmc : m.cap = mcap at *
  have hcm := hms.max
  have hcl := hms.le
  have HMS := Lib.hid hms
  obtain ⟨w0, hw0, hE0, hX, hB, hlt⟩ := bx_two w (.int .i64 1) (.string ⟨m.s.toArray⟩) (.int .i64 m.n) (.slice mA kn mcap) (.int .i64 (m.pos : Int))
  have HE := Lib.hid hE0
  have HX := Lib.hid hX
  have HB := Lib.hid hB
  have HLT := Lib.hid hlt
  obtain ⟨⟨c0, c1, c2, c3, c4⟩, _⟩ := hX.five
  obtain ⟨⟨b0_, b1_, b2_, b3_⟩, g0_, g1_, g2_, g3_⟩ := hB.four
  simp only [beq_self_eq_true, if_true, show ((1 : Int) == 2) = false from rfl, show ((1 : Int) == 3) = false from rfl, show ((1 : Int) == 4) = false from rfl, Bool.false_eq_true, if_false] at hke
  clear ih hL hd hfair hkn hE0 hX hB hR hmA hmc hms hlt hsz hk1
  cases hk : m.kids with
  | nil =>
    obtain rfl : kn = 0 := by rw [HKN.out, hk]; rfl
    rw [hk] at hke
    have HK : Hid (R = xBad 12 m.pos) := Lib.hid hke
    clear hke
    go_enter Tryd.func35, Tryd.ntmps35
    go_wp2_with (first
      | ((with_reducible refine (HWR.out 12 _).mono ?_); rintro e w1 ⟨x, rfl, hxt, hxl, hE1⟩; have HXT := Lib.hid hxt; have B1 := HB.out.ev hE1; have FIN := Lib.hid (fun v0 v1 v2 v3 => rx_finish (g := w.heap.size + 1) (HE.out.trans hE1) (by omega) hxl HLT.out v0 v1 v2 v3); obtain ⟨⟨b0_, b1_, b2_, b3_⟩, g0_, g1_, g2_, g3_⟩ := B1.four; clear hxt hxl))
    (try simp only [Exit.inBlock, Exit.then])
    rw [set4_fold]
    refine bodyPost_ret (results_cell2' rfl _ _ _ _ _ rfl (B1.set4 _ _ _ _) Tryd.underlying30 rfl Tryd.sizeExpr) rfl ?_
    exact ⟨x, by rw [HK.out]; rfl, by rw [HXT.out, HK.out]; rfl, FIN.out _ _ _ _⟩
  | cons hm1 q =>
    have hknq : kn = q.length + 1 := by rw [HKN.out, hk]; rfl
    rw [hk] at hke
    obtain ⟨b, off, rfl, hb, h0, h1, _, _, _⟩ := HMS.out.cell (i := 0) (x := hm1) (by rw [hk]; rfl)
    simp only [Nat.zero_mul, Nat.add_zero] at h0 h1
    have HH : Hid (∀ w1, Ev w w1 → w1.cell? ⟨b, off, none⟩ = some (.int .i64 hm1.kind) ∧ w1.cell? ⟨b, off + 1, none⟩ = some (.string ⟨hm1.s.toArray⟩)) := Lib.hid fun w1 hE => ⟨(hE.cell (p := ⟨_, _, none⟩) hb).trans h0, (hE.cell (p := ⟨_, _, none⟩) hb).trans h1⟩
    clear h0 h1
    obtain ⟨h0, h1⟩ := HH.out _ HE.out
    have i0 : ¬ ((kn : Int) = 0) := by omega
    have i0' : ((kn : Int) == 0) = false := beq_eq_false_iff_ne.2 i0
    have i1 : (0 : Int) < (kn : Int) := by omega
    have HKQ := Lib.hid hknq
    have HKIDS := Lib.hid hk
    clear hknq hk
    by_cases hh : hm1.kind = 2
    · have hhb : (hm1.kind == 2) = true := beq_iff_eq.2 hh
      have hhn : (hm1.kind != 2) = false := by simp [hh]
      have HT := fun w1 => ex_operands hm1.s w1
      unfold bstr at HT
      obtain ⟨t, ht⟩ : ∃ t, t = xTakes hm1.s := ⟨_, rfl⟩
      simp only [hhb, Bool.true_and] at hke
      rw [← ht] at HT hke
      have HT := Lib.hid HT
      have HTT := Lib.hid ht
      have E3 := Ev.alloc w0 (.cells #[.int .i64 4, .string ⟨hm1.s.toArray⟩, .int .i64 0, .slice none 0 0] 30)
      have HI0 := Lib.hid (RxSt.init w0 hm1.s)
      have HE3 := Lib.hid E3
      have HBA := Lib.hid (HB.out.ev HE3.out)
      have HXA := Lib.hid (HX.out.ev HE3.out)
      obtain ⟨⟨d0, d1, d2, d3⟩, r0, r1, r2, r3⟩ := HI0.out.box.four
      obtain ⟨⟨cc0, cc1, cc2, cc3, cc4⟩, _⟩ := HXA.out.five
      obtain ⟨⟨bb0_, bb1_, bb2_, bb3_⟩, gg0_, gg1_, gg2_, gg3_⟩ := HBA.out.four
      obtain ⟨hh0, hh1⟩ := HH.out _ (HE.out.trans HE3.out)
      clear hh ht E3
      by_cases hz : t = 0
      · subst hz
        have HK : Hid (R = xBad 12 m.pos) := Lib.hid (by rw [hke]; rfl)
        clear hke
        go_enter Tryd.func35, Tryd.ntmps35
        go_wp2_with (first
          | ((with_reducible refine (HT.out _).mono ?_); rintro e w1 ⟨rfl, rfl⟩)
          | ((with_reducible refine (HWR.out 12 _).mono ?_); rintro e w1 ⟨x, rfl, hxt, hxl, hE1⟩; have HXT := Lib.hid hxt; have B1 := HBA.out.ev hE1; have FIN := Lib.hid (fun v0 v1 v2 v3 => rx_finish (g := w.heap.size + 1) ((HE.out.trans HE3.out).trans hE1) (by omega) hxl (Nat.lt_of_lt_of_le HLT.out HE3.out.size) v0 v1 v2 v3); obtain ⟨⟨b0_, b1_, b2_, b3_⟩, g0_, g1_, g2_, g3_⟩ := B1.four; clear hxt hxl))
        (try simp only [Exit.inBlock, Exit.then])
        rw [set4_fold]
        refine bodyPost_ret (results_cell2' rfl _ _ _ _ _ rfl (B1.set4 _ _ _ _) Tryd.underlying30 rfl Tryd.sizeExpr) rfl ?_
        exact ⟨x, by rw [HK.out]; rfl, by rw [HXT.out, HK.out]; rfl, FIN.out _ _ _ _⟩
      · have z1 : ¬ ((t : Int) = 0) := by omega
        have z2 : ((t : Int) == 0) = false := beq_eq_false_iff_ne.2 z1
        have htb : (t == 0) = false := beq_eq_false_iff_ne.2 hz
        rw [htb] at hke
        simp only [Bool.not_false, if_true] at hke
        by_cases hq : q.length = t
        · rw [if_pos (beq_iff_eq.2 hq)] at hke
          have HK := Lib.hid hke
          have HQ := Lib.hid hq
          have hkt : (t : Int) = (kn : Int) - 1 := by have := HKQ.out; omega
          have hktb : ((t : Int) == ((kn : Int) - 1)) = true := beq_iff_eq.2 hkt
          have hktn : ((t : Int) != ((kn : Int) - 1)) = false := by simp; exact hkt
          have HKT := Lib.hid hkt
          have m1 : ¬ (mcap = 1) := by have := HKQ.out; omega
          have m2 : (1 : Int) ≤ (kn : Int) := by omega
          have m3 : (1 : Int) ≤ (mcap : Int) := by omega
          have m4 : (kn : Int) ≤ (mcap : Int) := by omega
          clear hke hkt hq
          go_enter Tryd.func35, Tryd.ntmps35
          go_wp2_with (first
            | ((with_reducible refine (HT.out _).mono ?_); rintro e w1 ⟨rfl, rfl⟩))
          have HKT2 : Hid (kn = t + 1) := Lib.hid (by have := HKQ.out; have := HQ.out; omega)
          go_loopw [62] (fun iv wr => ∃ (A : Option Addr) (n cap : Nat) (L : List M), iv = .int .i64 (n : Int) ∧ n ≤ t ∧ Hid (RxSt w0 w0.heap.size hm1.s A n cap L wr) ∧ Hid (R = xReads hm1.s (L.map M.t) ((q.drop n).map fun x => xRead x.t))) (fun iv _ => t - (intOf iv).toNat)
          case atStart => exact ⟨none, 0, 0, [], rfl, Nat.zero_le _, HI0, HK⟩
          case round =>
            obtain ⟨A, n, cap, L, rfl, hj, HS, HR⟩ := hrel
            have HEW := Lib.hid (HE.out.trans HS.out.ev)
            have HEW0 := Lib.hid HS.out.ev
            obtain ⟨⟨c0, c1, c2, c3, c4⟩, _⟩ := (HX.out.ev HEW0.out).five
            obtain ⟨⟨b0_, b1_, b2_, b3_⟩, g0_, g1_, g2_, g3_⟩ := (HB.out.ev HEW0.out).four
            obtain ⟨⟨d0, d1, d2, d3⟩, r0, r1, r2, r3⟩ := HS.out.box.four
            have HLL := Lib.hid HS.out.len
            by_cases hlt : n < t
            · obtain ⟨x, hx⟩ : ∃ x, q[n]? = some x := ⟨_, List.getElem?_eq_getElem (by have := HQ.out; omega)⟩
              have hxm : m.kids[n + 1]? = some x := by rw [HKIDS.out]; simpa using hx
              obtain ⟨b', off', he, _, x0, x1, x2, x3, x4⟩ := Ms.cell (HMS.out.ev HEW.out) hxm
              injection he with he
              injection he with he1 he2 _
              subst he1
              subst he2
              have hadr : off + (n + 1) * 5 = off + 5 + n * 5 := by omega
              rw [hadr] at x0 x1 x2 x3 x4
              have hdj : q.drop n = x :: q.drop (n + 1) := by
                obtain ⟨hj', e⟩ := List.getElem?_eq_some_iff.1 hx
                rw [List.drop_eq_getElem_cons hj', e]
              have HR1 := HR.out
              rw [hdj, List.map_cons] at HR1
              unfold xReads at HR1
              have hxk := List.mem_of_getElem? hxm
              have hxf : x.t.every fairB = true := by
                have h5 := HFAIR.out
                rw [T.every_eq, Bool.and_eq_true] at h5
                exact List.all_eq_true.1 h5.2 x.t (by rw [M.t_kids]; exact List.mem_map.2 ⟨x, hxk, rfl⟩)
              have hxs : x.t.size ≤ 16000 := by
                have h5 := T.size_eq m.t
                rw [M.t_kids, List.map_map] at h5
                have h6 := mem_le_sum (List.mem_map.2 ⟨x, hxk, rfl⟩ : x.t.size ∈ m.kids.map (T.size ∘ M.t))
                have := HSZ.out
                omega
              have HI := fun w1 (hE : Ev w w1) => HIH.out x b0 w1 (by have := M.kid_dep hxk; have := HD.out; omega) ((HL.out.kid x hxk).ev hE) hxf hxs
              unfold RxOut at HI
              unfold M.kv at x3
              generalize xRead x.t = rx at *
              obtain ⟨rt, ry, rp⟩ := rx
              simp only at HR1 HI
              have HI := Lib.hid HI
              have hnb : n ≤ 20000 := by have := HKT2.out; omega
              have i2 : (n : Int) < (t : Int) := by omega
              have i3 : (0 : Int) ≤ (n : Int) := by omega
              have i4 : (n : Int) < (kn : Int) - 1 := by have := HKT2.out; omega
              have i5 : (n : Int) < ((kn - 1 : Nat) : Int) := by have := HKT2.out; omega
              have HAL := Lib.hid (Ev.alloc wr (.cells #[.int .i64 x.kind, .string ⟨x.s.toArray⟩, .int .i64 x.n, .slice x.A x.kids.length x.cap, .int .i64 (x.pos : Int)] 36))
              clear hx hxm hdj hxk hxf hxs hadr
              by_cases hw : ry = 0
              · subst hw
                rw [if_pos (by rfl)] at HR1
                have HR2 := Lib.hid HR1
                clear HR1
                go_wp2_with (first
                  | ((with_reducible refine (HI.out _ (HEW.out.trans HAL.out)).mono ?_); rintro e w1 ⟨x', rfl, hxt, hxl, hE1⟩; have HXT := Lib.hid hxt; have HXL := Lib.hid (hxl.low HAL.out.size); have E1 := Lib.hid (HAL.out.trans hE1); obtain ⟨⟨d0, d1, d2, d3⟩, r0, r1, r2, r3⟩ := (HS.out.box.ev (E1.out.trans (Ev.alloc w1 (.cells #[.int .i64 x'.kind, .string ⟨x'.s.toArray⟩, .int .i64 x'.n, .slice x'.A x'.kids.length x'.cap] 30)))).four; clear hxt hxl)
                  | ((show wpList _ _ _ (⟨some 81, _, _, _, _, _⟩ :: _) _ _); refine wpList_append_ow (o := ⟨some 81, _, _, _, _, _⟩) rfl 28 (.tmp 78) (.tmp 80) rfl encE Tryd.underlying28 Tryd.infoExpr rfl rfl (HS.out.own.ev (E1.out.trans ((Ev.alloc w1 _).trans (Ev.alloc _ _)))) (some ⟨w1.heap.size + 1, 0, none⟩) 1 1 [x'] rfl (by have := Sl.one (et := 30) encE (w1.alloc (.cells #[.int .i64 x'.kind, .string ⟨x'.s.toArray⟩, .int .i64 x'.n, .slice x'.A x'.kids.length x'.cap] 30)) x' #[.int .i64 x'.kind, .string ⟨x'.s.toArray⟩, .int .i64 x'.n, .slice x'.A x'.kids.length x'.cap] rfl; simpa using this) (by rw [HLL.out]; simp; omega) (by rw [HLL.out]; simp; omega) (by have h7 := HS.out.box.lt; have h8 := (E1.out.trans ((Ev.alloc w1 (.cells #[.int .i64 x'.kind, .string ⟨x'.s.toArray⟩, .int .i64 x'.n, .slice x'.A x'.kids.length x'.cap] 30)).trans (Ev.alloc _ (.cells #[.int .i64 x'.kind, .string ⟨x'.s.toArray⟩, .int .i64 x'.n, .slice x'.A x'.kids.length x'.cap] 30)))).size; omega) ?_; intro v2 w2 hA2; obtain ⟨⟨d0, d1, d2, d3⟩, r0, r1, r2, r3⟩ := (HS.out.after (E1.out.trans ((Ev.alloc w1 _).trans (Ev.alloc _ _))) hA2).four; obtain ⟨A2, cap2, rfl, ST2⟩ := HS.out.next (E1.out.trans ((Ev.alloc w1 _).trans (Ev.alloc _ _))) (HXL.out.ev ((Ev.alloc w1 _).trans (Ev.alloc _ _))) hA2))
                go_roundw
                case rel => exact ⟨A2, n + 1, cap2, L ++ [x'], by go_num, by omega, Lib.hid ST2, Lib.hid (by rw [HR2.out, List.map_append, List.map_cons, List.map_nil, HXT.out])⟩
                case measure => simp [intOf]; omega
              · have hwb : (ry == 0) = false := beq_eq_false_iff_ne.2 hw
                have hwn : (ry != 0) = true := by simp [hw]
                rw [hwb] at HR1
                simp only [Bool.false_eq_true, if_false] at HR1
                have HR2 := Lib.hid HR1
                clear HR1
                go_wp2_with (first
                  | ((with_reducible refine (HI.out _ (HEW.out.trans HAL.out)).mono ?_); rintro e w1 ⟨x', rfl, hxt, hxl, hE1⟩; have E1 := HEW.out.trans (HAL.out.trans (hE1.trans (Ev.alloc w1 (.cells #[.int .i64 x'.kind, .string ⟨x'.s.toArray⟩, .int .i64 x'.n, .slice x'.A x'.kids.length x'.cap] 30)))); have B1 := HB.out.ev (HEW0.out.trans (HAL.out.trans (hE1.trans (Ev.alloc w1 (.cells #[.int .i64 x'.kind, .string ⟨x'.s.toArray⟩, .int .i64 x'.n, .slice x'.A x'.kids.length x'.cap] 30))))); obtain ⟨⟨b0_, b1_, b2_, b3_⟩, g0_, g1_, g2_, g3_⟩ := B1.four))
                (try simp only [Exit.inBlock, Exit.then])
                rw [set4_fold]
                refine bodyPost_ret (results_cell2' rfl _ _ _ _ _ rfl (B1.set4 _ _ _ _) Tryd.underlying30 rfl Tryd.sizeExpr) rfl ?_
                exact ⟨mzero, by rw [HR2.out]; rfl, by rw [HR2.out]; rfl, Lx.leaf, E1.box (set4_but _ _ _ _ _ _) (by omega)⟩
            · have hjk : n = t := by omega
              have i2 : ¬ ((n : Int) < (t : Int)) := by omega
              have i4 : ¬ ((n : Int) < (kn : Int) - 1) := by have := HKT2.out; omega
              have i5 : ¬ ((n : Int) < ((kn - 1 : Nat) : Int)) := by have := HKT2.out; omega
              have HR1 := HR.out
              rw [List.drop_of_length_le (by have := HQ.out; omega)] at HR1
              simp only [List.map_nil, xReads] at HR1
              have HR2 := Lib.hid HR1
              obtain ⟨hlx, hnl⟩ := HS.out.done (b0 := w.heap.size) HE.out.size
              have hlg := (HS.out.done (b0 := w0.heap.size) (Nat.le_refl _)).1
              have HLXG := Lib.hid (hlg.less (K' := [w.heap.size + 1]) fun k hk => by simp at hk; subst hk; exact .inr (.inl HLT.out))
              clear hlg
              have HNL := Lib.hid hnl
              clear HR1 hjk hlx hnl
              go_wp2
              (try simp only [Exit.inBlock, Exit.then])
              rw [set4_fold]
              refine bodyPost_ret (results_cell2' rfl _ _ _ _ _ rfl ((HB.out.ev HEW0.out).set4 _ _ _ _) Tryd.underlying30 rfl Tryd.sizeExpr) rfl ?_
              refine ⟨.mk 4 hm1.s 0 A cap L 0, by rw [HR2.out]; simp only [M.kids]; rw [← HNL.out]; rfl, by rw [HR2.out]; simp [M.t, M.ts_map], ?_, HEW.out.box (set4_but _ _ _ _ _ _) (by omega)⟩
              exact (HLXG.out.move (set4_but _ _ _ _ _ _) fun k hk => by cases hk).low (by have := HLT.out; omega)
        · rw [if_neg (by simp; exact hq)] at hke
          have HK : Hid (R = xBad 23 m.pos) := Lib.hid hke
          have hkt : ¬ ((t : Int) = (kn : Int) - 1) := by have := HKQ.out; omega
          have hktb : ((t : Int) == ((kn : Int) - 1)) = false := beq_eq_false_iff_ne.2 hkt
          have hktn : ((t : Int) != ((kn : Int) - 1)) = true := by simp; exact hkt
          clear hke
          go_enter Tryd.func35, Tryd.ntmps35
          go_wp2_with (first
            | ((with_reducible refine (HT.out _).mono ?_); rintro e w1 ⟨rfl, rfl⟩)
            | ((with_reducible refine (HWR.out 23 _).mono ?_); rintro e w1 ⟨x, rfl, hxt, hxl, hE1⟩; have HXT := Lib.hid hxt; have B1 := HBA.out.ev hE1; have FIN := Lib.hid (fun v0 v1 v2 v3 => rx_finish (g := w.heap.size + 1) ((HE.out.trans HE3.out).trans hE1) (by omega) hxl (Nat.lt_of_lt_of_le HLT.out HE3.out.size) v0 v1 v2 v3); obtain ⟨⟨b0_, b1_, b2_, b3_⟩, g0_, g1_, g2_, g3_⟩ := B1.four; clear hxt hxl))
          (try simp only [Exit.inBlock, Exit.then])
          rw [set4_fold]
          refine bodyPost_ret (results_cell2' rfl _ _ _ _ _ rfl (B1.set4 _ _ _ _) Tryd.underlying30 rfl Tryd.sizeExpr) rfl ?_
          exact ⟨x, by rw [HK.out]; rfl, by rw [HXT.out, HK.out]; rfl, FIN.out _ _ _ _⟩
    · have hhb : (hm1.kind == 2) = false := beq_eq_false_iff_ne.2 hh
      have hhn : (hm1.kind != 2) = true := by simp [hh]
      simp only [hhb, Bool.false_and, Bool.false_eq_true, if_false] at hke
      have HK : Hid (R = xBad 12 m.pos) := Lib.hid hke
      clear hke
      go_enter Tryd.func35, Tryd.ntmps35
      go_wp2_with (first
        | ((with_reducible refine (HWR.out 12 _).mono ?_); rintro e w1 ⟨x, rfl, hxt, hxl, hE1⟩; have HXT := Lib.hid hxt; have B1 := HB.out.ev hE1; have FIN := Lib.hid (fun v0 v1 v2 v3 => rx_finish (g := w.heap.size + 1) (HE.out.trans hE1) (by omega) hxl HLT.out v0 v1 v2 v3); obtain ⟨⟨b0_, b1_, b2_, b3_⟩, g0_, g1_, g2_, g3_⟩ := B1.four; clear hxt hxl))
      (try simp only [Exit.inBlock, Exit.then])
      rw [set4_fold]
      refine bodyPost_ret (results_cell2' rfl _ _ _ _ _ rfl (B1.set4 _ _ _ _) Tryd.underlying30 rfl Tryd.sizeExpr) rfl ?_
      exact ⟨x, by rw [HK.out]; rfl, by rw [HXT.out, HK.out]; rfl, FIN.out _ _ _ _⟩

set_option maxRecDepth 100000 in
set_option maxHeartbeats 8000000 in
theorem ex_read (N : Nat) : ReadAt N := by
  induction N with
  | zero =>
    intro m b0 w hd
    rw [M.dep_eq] at hd
    omega
  | succ N ih =>
    intro m b0 w hd hL hfair hsz
    have hke := xRead_eq m
    have hsl : m.s.length ≤ 100000 := by
      rw [T.every_eq, Bool.and_eq_true] at hfair
      have := hfair.1
      unfold fairB at this
      simp only [Bool.and_eq_true, decide_eq_true_iff, M.t_s] at this
      exact this.2
    have HWR := Lib.hid (fun why w1 => ex_wrong why m w1)
    have HAP := Lib.hid (fun w1 (hE : Ev w w1) (hk : m.kind = 1) => ex_readApply N ih m b0 w1 hd (hL.ev hE) hfair hsz hk)
    have hc1 := hL.ms.le
    have hc2 := hL.ms.max
    obtain ⟨w0, hw0, hE0, hX, hB, hlt⟩ := bx_two w (.int .i64 m.kind) (.string ⟨m.s.toArray⟩) (.int .i64 m.n) (.slice m.A m.kids.length m.cap) (.int .i64 (m.pos : Int))
    have HE := Lib.hid hE0
    have HB := Lib.hid hB
    have HX := Lib.hid hX
    have HLT := Lib.hid hlt
    obtain ⟨⟨c0, c1, c2, c3, c4⟩, _⟩ := hX.five
    obtain ⟨⟨b0_, b1_, b2_, b3_⟩, g0_, g1_, g2_, g3_⟩ := hB.four
    obtain ⟨R, hR⟩ : ∃ R, R = xRead m.t := ⟨_, rfl⟩
    rw [← hR] at hke HAP ⊢
    clear ih hL hd hfair hE0 hX hB hR hlt hsz
    by_cases k1 : m.kind = 1
    · have HAP2 := Lib.hid (fun w1 hE => HAP.out w1 hE k1)
      have k1b : (m.kind == 1) = true := beq_iff_eq.2 k1
      clear HAP hke k1
      go_enter Tryd.func23, Tryd.ntmps23
      go_wp2_with (first
        | ((with_reducible refine (HAP2.out _ HE.out).mono ?_); rintro e w1 ⟨x, rfl, hxt, hxl, hE1⟩; have HXT := Lib.hid hxt; have B1 := HB.out.ev hE1; have FIN := Lib.hid (fun v0 v1 v2 v3 => rx_finish (g := w.heap.size + 1) (HE.out.trans hE1) (by omega) hxl HLT.out v0 v1 v2 v3); obtain ⟨⟨b0_, b1_, b2_, b3_⟩, g0_, g1_, g2_, g3_⟩ := B1.four; clear hxt hxl))
      (try simp only [Exit.inBlock, Exit.then])
      rw [set4_fold]
      refine bodyPost_ret (results_cell2' rfl _ _ _ _ _ rfl (B1.set4 _ _ _ _) Tryd.underlying30 rfl Tryd.sizeExpr) rfl ?_
      exact ⟨x, rfl, HXT.out, FIN.out _ _ _ _⟩
    have k1' : (m.kind == 1) = false := beq_eq_false_iff_ne.2 k1
    rw [k1'] at hke
    by_cases k2 : m.kind = 2
    · have k2b : (m.kind == 2) = true := beq_iff_eq.2 k2
      rw [k2b] at hke
      simp only [if_true] at hke
      have HN := fun w1 => row_name (bstr m.s) w1
      unfold bstr at HN
      rw [show xName m.s = nameV ⟨m.s.toArray⟩ from rfl] at hke
      clear k1 k2
      cases hn : nameV ⟨m.s.toArray⟩ with
      | false =>
        rw [hn] at hke HN
        simp only [Bool.false_eq_true, if_false] at hke
        have HK := Lib.hid hke
        have HN := Lib.hid HN
        clear hke
        go_enter Tryd.func23, Tryd.ntmps23
        go_wp2_with (first
          | ((with_reducible refine (HN.out _).mono ?_); rintro e wn ⟨rfl, hEn⟩; have HEN := Lib.hid hEn; obtain ⟨⟨c0, c1, c2, c3, c4⟩, _⟩ := (HX.out.ev hEn).five)
          | ((with_reducible refine (HWR.out 20 _).mono ?_); rintro e w1 ⟨x, rfl, hxt, hxl, hE1⟩; have HXT := Lib.hid hxt; have B1 := HB.out.ev (HEN.out.trans hE1); have FIN := Lib.hid (fun v0 v1 v2 v3 => rx_finish (g := w.heap.size + 1) ((HE.out.trans HEN.out).trans hE1) (by omega) hxl (Nat.lt_of_lt_of_le HLT.out HEN.out.size) v0 v1 v2 v3); obtain ⟨⟨b0_, b1_, b2_, b3_⟩, g0_, g1_, g2_, g3_⟩ := B1.four; clear hxt hxl))
        (try simp only [Exit.inBlock, Exit.then])
        rw [set4_fold]
        refine bodyPost_ret (results_cell2' rfl _ _ _ _ _ rfl (B1.set4 _ _ _ _) Tryd.underlying30 rfl Tryd.sizeExpr) rfl ?_
        exact ⟨x, by rw [HK.out]; rfl, by rw [HXT.out, HK.out]; rfl, FIN.out _ _ _ _⟩
      | true =>
        rw [hn] at hke HN
        simp only [if_true] at hke
        have HK := Lib.hid hke
        have HN := Lib.hid HN
        clear hke
        go_enter Tryd.func23, Tryd.ntmps23
        go_wp2_with (first | ((with_reducible refine (HN.out _).mono ?_); rintro e w1 ⟨rfl, hE1⟩; have E1 := HE.out.trans hE1; have B1 := HB.out.ev hE1; obtain ⟨⟨c0, c1, c2, c3, c4⟩, _⟩ := (HX.out.ev hE1).five; obtain ⟨⟨b0_, b1_, b2_, b3_⟩, g0_, g1_, g2_, g3_⟩ := B1.four))
        (try simp only [Exit.inBlock, Exit.then])
        rw [set4_fold]
        refine bodyPost_ret (results_cell2' rfl _ _ _ _ _ rfl (B1.set4 _ _ _ _) Tryd.underlying30 rfl Tryd.sizeExpr) rfl ?_
        exact ⟨(.mk 1 m.s 0 none 0 [] 0), by rw [HK.out]; rfl, by rw [HK.out]; simp [M.t, M.ts], Lx.leaf, E1.box (set4_but _ _ _ _ _ _) (by omega)⟩
    have k2' : (m.kind == 2) = false := beq_eq_false_iff_ne.2 k2
    rw [k2'] at hke
    by_cases k3 : m.kind = 3
    · have k3b : (m.kind == 3) = true := beq_iff_eq.2 k3
      rw [k3b] at hke
      have HK : Hid (R = (.mk 2 [] m.n [] 0, 0, 0)) := Lib.hid hke
      clear hke k1 k2 k3
      go_enter Tryd.func23, Tryd.ntmps23
      go_wp2
      (try simp only [Exit.inBlock, Exit.then])
      rw [set4_fold]
      refine bodyPost_ret (results_cell2' rfl _ _ _ _ _ rfl (HB.out.set4 _ _ _ _) Tryd.underlying30 rfl Tryd.sizeExpr) rfl ?_
      exact ⟨(.mk 2 [] m.n none 0 [] 0), by rw [HK.out]; rfl, by rw [HK.out]; simp [M.t, M.ts], Lx.leaf, HE.out.box (set4_but _ _ _ _ _ _) (by omega)⟩
    have k3' : (m.kind == 3) = false := beq_eq_false_iff_ne.2 k3
    rw [k3'] at hke
    by_cases k4 : m.kind = 4
    · have k4b : (m.kind == 4) = true := beq_iff_eq.2 k4
      rw [k4b] at hke
      have HK : Hid (R = (.mk 3 m.s 0 [] 0, 0, 0)) := Lib.hid hke
      clear hke k1 k2 k3 k4
      go_enter Tryd.func23, Tryd.ntmps23
      go_wp2
      (try simp only [Exit.inBlock, Exit.then])
      rw [set4_fold]
      refine bodyPost_ret (results_cell2' rfl _ _ _ _ _ rfl (HB.out.set4 _ _ _ _) Tryd.underlying30 rfl Tryd.sizeExpr) rfl ?_
      exact ⟨(.mk 3 m.s 0 none 0 [] 0), by rw [HK.out]; rfl, by rw [HK.out]; simp [M.t, M.ts], Lx.leaf, HE.out.box (set4_but _ _ _ _ _ _) (by omega)⟩
    · have k4' : (m.kind == 4) = false := beq_eq_false_iff_ne.2 k4
      rw [k4'] at hke
      have HK : Hid (R = xBad 12 m.pos) := Lib.hid hke
      clear hke k1 k2 k3 k4
      go_enter Tryd.func23, Tryd.ntmps23
      go_wp2_with (first
        | ((with_reducible refine (HWR.out 12 _).mono ?_); rintro e w1 ⟨x, rfl, hxt, hxl, hE1⟩; have HXT := Lib.hid hxt; have B1 := HB.out.ev hE1; have FIN := Lib.hid (fun v0 v1 v2 v3 => rx_finish (g := w.heap.size + 1) (HE.out.trans hE1) (by omega) hxl HLT.out v0 v1 v2 v3); obtain ⟨⟨b0_, b1_, b2_, b3_⟩, g0_, g1_, g2_, g3_⟩ := B1.four; clear hxt hxl))
      (try simp only [Exit.inBlock, Exit.then])
      rw [set4_fold]
      refine bodyPost_ret (results_cell2' rfl _ _ _ _ _ rfl (B1.set4 _ _ _ _) Tryd.underlying30 rfl Tryd.sizeExpr) rfl ?_
      exact ⟨x, by rw [HK.out]; rfl, by rw [HXT.out, HK.out]; rfl, FIN.out _ _ _ _⟩

set_option maxRecDepth 100000 in
set_option maxHeartbeats 4000000 in
theorem ex_Read (m : M) (b0 : Nat) (w : World) (hL : Lies b0 [] w m) (hfair : m.t.every fairB = true) (hsz : m.t.size ≤ 16000) :
    Calls Tryd.prog 6 #[.agg #[.int .i64 m.kind, .string ⟨m.s.toArray⟩, .int .i64 m.n, .slice m.A m.kids.length m.cap, .int .i64 (m.pos : Int)]] w (RxOut (xRead m.t) w) := by
  have HP := Lib.hid (fun w1 (hE : Ev w w1) => ex_partsT m b0 w1 (hL.ev hE) hsz)
  have HR := Lib.hid (fun w1 (hE : Ev w w1) => ex_read m.dep m b0 w1 (Nat.le_refl _) (hL.ev hE) hfair hsz)
  have hc1 := hL.ms.le
  have hc2 := hL.ms.max
  obtain ⟨w0, hw0, hE0, hX, hB, hlt⟩ := bx_two w (.int .i64 m.kind) (.string ⟨m.s.toArray⟩) (.int .i64 m.n) (.slice m.A m.kids.length m.cap) (.int .i64 (m.pos : Int))
  have HE := Lib.hid hE0
  have HB := Lib.hid hB
  have HX := Lib.hid hX
  have HLT := Lib.hid hlt
  obtain ⟨⟨c0, c1, c2, c3, c4⟩, _⟩ := hX.five
  obtain ⟨⟨b0_, b1_, b2_, b3_⟩, g0_, g1_, g2_, g3_⟩ := hB.four
  generalize xRead m.t = R at *
  clear hL hfair hE0 hX hB hlt hsz
  go_enter Tryd.func6, Tryd.ntmps6
  go_wp2_with (first
    | ((with_reducible refine (HP.out _ HE.out).mono ?_); rintro e wn ⟨A, n, cap, rfl, hEn⟩; have HEN := Lib.hid hEn; obtain ⟨⟨c0, c1, c2, c3, c4⟩, _⟩ := (HX.out.ev hEn).five)
    | ((with_reducible refine (HR.out _ (HE.out.trans HEN.out)).mono ?_); rintro e w1 ⟨x, rfl, hxt, hxl, hE1⟩; have HXT := Lib.hid hxt; have B1 := HB.out.ev (HEN.out.trans hE1); have FIN := Lib.hid (fun v0 v1 v2 v3 => rx_finish (g := w.heap.size + 1) ((HE.out.trans HEN.out).trans hE1) (by omega) hxl (Nat.lt_of_lt_of_le HLT.out HEN.out.size) v0 v1 v2 v3); obtain ⟨⟨b0_, b1_, b2_, b3_⟩, g0_, g1_, g2_, g3_⟩ := B1.four; clear hxt hxl))
  (try simp only [Exit.inBlock, Exit.then])
  rw [set4_fold]
  refine bodyPost_ret (results_cell2' rfl _ _ _ _ _ rfl (B1.set4 _ _ _ _) Tryd.underlying30 rfl Tryd.sizeExpr) rfl ?_
  exact ⟨x, rfl, HXT.out, FIN.out _ _ _ _⟩
end Go.Proofs.YtnljagmpeifikaaDoor

namespace Go.Proofs.YtnljagmpeifikaaDoor
open Go.RowKit
set_option linter.unusedVariables false

theorem xOf_add : xOf [40, 97, 100, 100, 32, 97, 32, 99, 41] = .mk 4 bAdd 0 [.mk 1 [97] 0 [] 0, .mk 1 [99] 0 [] 0] 0 := by kernel_rfl
theorem xOk_add : (rfRead [40, 97, 100, 100, 32, 97, 32, 99, 41]).1.every fairB = true ∧ (rfRead [40, 97, 100, 100, 32, 97, 32, 99, 41]).1.size ≤ 100000 := by decide +kernel
theorem xOf_sub : xOf [40, 115, 117, 98, 32, 97, 32, 99, 41] = .mk 4 bSub 0 [.mk 1 [97] 0 [] 0, .mk 1 [99] 0 [] 0] 0 := by kernel_rfl
theorem xOk_sub : (rfRead [40, 115, 117, 98, 32, 97, 32, 99, 41]).1.every fairB = true ∧ (rfRead [40, 115, 117, 98, 32, 97, 32, 99, 41]).1.size ≤ 100000 := by decide +kernel
theorem xOf_mul : xOf [40, 109, 117, 108, 32, 97, 32, 99, 41] = .mk 4 bMul 0 [.mk 1 [97] 0 [] 0, .mk 1 [99] 0 [] 0] 0 := by kernel_rfl
theorem xOk_mul : (rfRead [40, 109, 117, 108, 32, 97, 32, 99, 41]).1.every fairB = true ∧ (rfRead [40, 109, 117, 108, 32, 97, 32, 99, 41]).1.size ≤ 100000 := by decide +kernel
theorem xOf_if : xOf [40, 105, 102, 32, 40, 108, 116, 32, 97, 32, 48, 41, 32, 40, 110, 101, 103, 32, 97, 41, 32, 97, 41] = .mk 4 bIf 0 [.mk 4 bLt 0 [.mk 1 [97] 0 [] 0, .mk 2 [] 0 [] 0] 0, .mk 4 bNeg 0 [.mk 1 [97] 0 [] 0] 0, .mk 1 [97] 0 [] 0] 0 := by kernel_rfl
theorem xOk_if : (rfRead [40, 105, 102, 32, 40, 108, 116, 32, 97, 32, 48, 41, 32, 40, 110, 101, 103, 32, 97, 41, 32, 97, 41]).1.every fairB = true ∧ (rfRead [40, 105, 102, 32, 40, 108, 116, 32, 97, 32, 48, 41, 32, 40, 110, 101, 103, 32, 97, 41, 32, 97, 41]).1.size ≤ 100000 := by decide +kernel
theorem xOf_addx : xOf [40, 97, 100, 100, 32, 97, 32, 34, 120, 34, 41] = .mk 4 bAdd 0 [.mk 1 [97] 0 [] 0, .mk 3 [120] 0 [] 0] 0 := by kernel_rfl
theorem xOk_addx : (rfRead [40, 97, 100, 100, 32, 97, 32, 34, 120, 34, 41]).1.every fairB = true ∧ (rfRead [40, 97, 100, 100, 32, 97, 32, 34, 120, 34, 41]).1.size ≤ 100000 := by decide +kernel
theorem xOf_ifa : xOf [40, 105, 102, 32, 97, 32, 99, 32, 40, 97, 100, 100, 32, 57, 50, 50, 51, 51, 55, 50, 48, 51, 54, 56, 53, 52, 55, 55, 53, 56, 48, 55, 32, 49, 41, 41] = .mk 4 bIf 0 [.mk 1 [97] 0 [] 0, .mk 1 [99] 0 [] 0, .mk 4 bAdd 0 [.mk 2 [] 9223372036854775807 [] 0, .mk 2 [] 1 [] 0] 0] 0 := by kernel_rfl
theorem xOk_ifa : (rfRead [40, 105, 102, 32, 97, 32, 99, 32, 40, 97, 100, 100, 32, 57, 50, 50, 51, 51, 55, 50, 48, 51, 54, 56, 53, 52, 55, 55, 53, 56, 48, 55, 32, 49, 41, 41]).1.every fairB = true ∧ (rfRead [40, 105, 102, 32, 97, 32, 99, 32, 40, 97, 100, 100, 32, 57, 50, 50, 51, 51, 55, 50, 48, 51, 54, 56, 53, 52, 55, 55, 53, 56, 48, 55, 32, 49, 41, 41]).1.size ≤ 100000 := by decide +kernel
theorem xOf_ifb : xOf [40, 105, 102, 32, 97, 32, 40, 97, 100, 100, 32, 57, 50, 50, 51, 51, 55, 50, 48, 51, 54, 56, 53, 52, 55, 55, 53, 56, 48, 55, 32, 49, 41, 32, 99, 41] = .mk 4 bIf 0 [.mk 1 [97] 0 [] 0, .mk 4 bAdd 0 [.mk 2 [] 9223372036854775807 [] 0, .mk 2 [] 1 [] 0] 0, .mk 1 [99] 0 [] 0] 0 := by kernel_rfl
theorem xOk_ifb : (rfRead [40, 105, 102, 32, 97, 32, 40, 97, 100, 100, 32, 57, 50, 50, 51, 51, 55, 50, 48, 51, 54, 56, 53, 52, 55, 55, 53, 56, 48, 55, 32, 49, 41, 32, 99, 41]).1.every fairB = true ∧ (rfRead [40, 105, 102, 32, 97, 32, 40, 97, 100, 100, 32, 57, 50, 50, 51, 51, 55, 50, 48, 51, 54, 56, 53, 52, 55, 55, 53, 56, 48, 55, 32, 49, 41, 32, 99, 41]).1.size ≤ 100000 := by decide +kernel
theorem xOf_and : xOf [40, 97, 110, 100, 32, 97, 32, 99, 41] = .mk 4 bAnd 0 [.mk 1 [97] 0 [] 0, .mk 1 [99] 0 [] 0] 0 := by kernel_rfl
theorem xOk_and : (rfRead [40, 97, 110, 100, 32, 97, 32, 99, 41]).1.every fairB = true ∧ (rfRead [40, 97, 110, 100, 32, 97, 32, 99, 41]).1.size ≤ 100000 := by decide +kernel
theorem xOf_or : xOf [40, 111, 114, 32, 97, 32, 99, 41] = .mk 4 bOr 0 [.mk 1 [97] 0 [] 0, .mk 1 [99] 0 [] 0] 0 := by kernel_rfl
theorem xOk_or : (rfRead [40, 111, 114, 32, 97, 32, 99, 41]).1.every fairB = true ∧ (rfRead [40, 111, 114, 32, 97, 32, 99, 41]).1.size ≤ 100000 := by decide +kernel
theorem xOf_not : xOf [40, 110, 111, 116, 32, 97, 41] = .mk 4 bNot 0 [.mk 1 [97] 0 [] 0] 0 := by kernel_rfl
theorem xOk_not : (rfRead [40, 110, 111, 116, 32, 97, 41]).1.every fairB = true ∧ (rfRead [40, 110, 111, 116, 32, 97, 41]).1.size ≤ 100000 := by decide +kernel
theorem xOf_eq : xOf [40, 101, 113, 32, 97, 32, 99, 41] = .mk 4 bEq 0 [.mk 1 [97] 0 [] 0, .mk 1 [99] 0 [] 0] 0 := by kernel_rfl
theorem xOk_eq : (rfRead [40, 101, 113, 32, 97, 32, 99, 41]).1.every fairB = true ∧ (rfRead [40, 101, 113, 32, 97, 32, 99, 41]).1.size ≤ 100000 := by decide +kernel
theorem xOf_lt : xOf [40, 108, 116, 32, 97, 32, 99, 41] = .mk 4 bLt 0 [.mk 1 [97] 0 [] 0, .mk 1 [99] 0 [] 0] 0 := by kernel_rfl
theorem xOk_lt : (rfRead [40, 108, 116, 32, 97, 32, 99, 41]).1.every fairB = true ∧ (rfRead [40, 108, 116, 32, 97, 32, 99, 41]).1.size ≤ 100000 := by decide +kernel
theorem xOf_cat : xOf [40, 99, 97, 116, 32, 120, 32, 121, 41] = .mk 4 bCat 0 [.mk 1 [120] 0 [] 0, .mk 1 [121] 0 [] 0] 0 := by kernel_rfl
theorem xOk_cat : (rfRead [40, 99, 97, 116, 32, 120, 32, 121, 41]).1.every fairB = true ∧ (rfRead [40, 99, 97, 116, 32, 120, 32, 121, 41]).1.size ≤ 100000 := by decide +kernel
theorem xOf_len : xOf [40, 108, 101, 110, 32, 120, 41] = .mk 4 bLen 0 [.mk 1 [120] 0 [] 0] 0 := by kernel_rfl
theorem xOk_len : (rfRead [40, 108, 101, 110, 32, 120, 41]).1.every fairB = true ∧ (rfRead [40, 108, 101, 110, 32, 120, 41]).1.size ≤ 100000 := by decide +kernel
theorem xOf_eqx : xOf [40, 101, 113, 32, 120, 32, 121, 41] = .mk 4 bEq 0 [.mk 1 [120] 0 [] 0, .mk 1 [121] 0 [] 0] 0 := by kernel_rfl
theorem xOk_eqx : (rfRead [40, 101, 113, 32, 120, 32, 121, 41]).1.every fairB = true ∧ (rfRead [40, 101, 113, 32, 120, 32, 121, 41]).1.size ≤ 100000 := by decide +kernel
theorem xOf_ltx : xOf [40, 108, 116, 32, 120, 32, 121, 41] = .mk 4 bLt 0 [.mk 1 [120] 0 [] 0, .mk 1 [121] 0 [] 0] 0 := by kernel_rfl
theorem xOk_ltx : (rfRead [40, 108, 116, 32, 120, 32, 121, 41]).1.every fairB = true ∧ (rfRead [40, 108, 116, 32, 120, 32, 121, 41]).1.size ≤ 100000 := by decide +kernel
end Go.Proofs.YtnljagmpeifikaaDoor

namespace Go.Proofs.YtnljagmpeifikaaDoor
open Go.RowKit
set_option linter.unusedVariables false

def ucols : List C := [(⟨#[97]⟩, 1), (⟨#[99]⟩, 1)]
theorem keep_u (w : World) : Calls Tryd.prog 16 #[] w fun e w' => e = .returned (.slice (some ⟨w.heap.size, 0, none⟩) 2 2) ∧ Cs w' (some ⟨w.heap.size, 0, none⟩) 2 2 ucols ∧ Ev w w' := by
  go_enter Tryd.func16, Tryd.ntmps16
  go_wp2
  go_ret
  exact ⟨rfl, Cs.made ucols 2 rfl (by decide) w _ rfl, Ev.alloc _ _⟩
theorem value_add (a b : Int) : xValue ucols [numV a, numV b] (.mk 4 bAdd 0 [.mk 1 [97] 0 [] 0, .mk 1 [99] 0 [] 0] 0) = xFit (a + b) := by kernel_rfl
theorem value_sub (a b : Int) : xValue ucols [numV a, numV b] (.mk 4 bSub 0 [.mk 1 [97] 0 [] 0, .mk 1 [99] 0 [] 0] 0) = xFit (a - b) := by kernel_rfl
theorem value_mul (a b : Int) : xValue ucols [numV a, numV b] (.mk 4 bMul 0 [.mk 1 [97] 0 [] 0, .mk 1 [99] 0 [] 0] 0) = xFit (a * b) := by kernel_rfl
end Go.Proofs.YtnljagmpeifikaaDoor

namespace Go.Proofs.YtnljagmpeifikaaDoor
open Go.RowKit
set_option linter.unusedVariables false

theorem of_at (s : ByteArray) (t : T) (ht : xOf s.data.toList = t) (hk : (rfRead s.data.toList).1.every fairB = true ∧ (rfRead s.data.toList).1.size ≤ 100000) (hs : s.size ≤ 100000) (w : World) :
    Calls Tryd.prog 15 #[.string s] w (OfOut t w) := by
  rw [← ht]
  exact law8_of s w hs hk.1 hk.2
theorem eval_at (t : T) (cols : List C) (r : List V) (k n : Int) (s : ByteArray) (y : Int) (hR : xValue cols r t = ((k, n, s), y)) (hz : t.size ≤ 16000) (hft : t.every fairB = true) (hfr : ∀ x ∈ r, fairV x) (m : M) (b0 : Nat) (w : World) (A : Option Addr) (n1 cap : Nat) (B : Option Addr) (n2 cap2 : Nat) (hm : m.t = t) (hL : Lx b0 [] w m) (hC : Cs w A n1 cap cols) (hV : Vs w B n2 cap2 r) :
    Calls Tryd.prog 14 #[ev_ m, .slice A n1 cap, .slice B n2 cap2] w fun e w' => e = .returned (.tuple #[vv k n s, .int .i64 y]) ∧ Ev w w' := by
  subst hm
  have := ex_eval m b0 w A n1 cap cols B n2 cap2 r hL hC hV hz hfr hft
  rw [hR] at this
  exact this
theorem type_at (t : T) (cols : List C) (R1 R2 : Int) (hR : xType cols t = (R1, R2)) (hz : t.size ≤ 16000) (hft : t.every fairB = true) (m : M) (b0 : Nat) (w : World) (A : Option Addr) (n cap : Nat) (hm : m.t = t) (hL : Lx b0 [] w m) (hC : Cs w A n cap cols) :
    Calls Tryd.prog 18 #[ev_ m, .slice A n cap] w fun e w' => e = .returned (.tuple #[.int .i64 R1, .int .i64 R2]) ∧ Ev w w' := by
  subst hm
  have := ex_type m b0 w A n cap cols hL hC hz (fair_short hft)
  rw [hR] at this
  exact this
theorem fair_num {a : Int} (h : i64R a) : fairV (numV a) := ⟨h, (show (0 : Nat) ≤ 100000 by omega)⟩
theorem fair_nums {l : List Int} (h : ∀ a ∈ l, i64R a) : ∀ x ∈ l.map numV, fairV x := fun x hx => by
  obtain ⟨a, ha, rfl⟩ := List.mem_map.1 hx
  exact fair_num (h a ha)
theorem value_known : xValue ucols ([-5, 1].map numV) (.mk 4 bIf 0 [.mk 4 bLt 0 [.mk 1 [97] 0 [] 0, .mk 2 [] 0 [] 0] 0, .mk 4 bNeg 0 [.mk 1 [97] 0 [] 0] 0, .mk 1 [97] 0 [] 0] 0) = ((1, 5, ⟨#[]⟩), 0) := by kernel_rfl
theorem type_known : xType ucols (.mk 4 bAdd 0 [.mk 1 [97] 0 [] 0, .mk 3 [120] 0 [] 0] 0) = (0, 22) := by kernel_rfl

set_option maxRecDepth 100000 in
set_option maxHeartbeats 4000000 in
theorem known8_any (w : World) :
    Calls Tryd.prog 5 #[] w fun e w' => e = .returned (.bool true) ∧ Ev w w' := by
  have hmix : Tryd.prog.follows .mixedOrders = true := by kernel_rfl
  have HO1 := Lib.hid (of_at ⟨#[40, 105, 102, 32, 40, 108, 116, 32, 97, 32, 48, 41, 32, 40, 110, 101, 103, 32, 97, 41, 32, 97, 41]⟩ _ xOf_if xOk_if (by decide))
  have HO2 := Lib.hid (of_at ⟨#[40, 97, 100, 100, 32, 97, 32, 34, 120, 34, 41]⟩ _ xOf_addx xOk_addx (by decide))
  have HU := Lib.hid keep_u
  have HN : Hid (∀ w, Calls Tryd.prog 17 #[.slice (some ⟨w.heap.size, 0, none⟩) 2 2] (w.alloc (.cells #[.int .i64 (-5), .int .i64 1] 2)) fun e w' => ∃ A m cap, e = .returned (.slice A m cap) ∧ Vs w' A m cap ([-5, 1].map numV) ∧ Ev w w') := Lib.hid fun w1 => nums_lit [-5, 1] 2 rfl (by decide) w1 _ rfl
  have HE := Lib.hid (eval_at _ _ _ _ _ _ _ value_known (by decide +kernel) (by decide +kernel) (fair_nums (by decide)))
  have HT := Lib.hid (type_at _ _ _ _ type_known (by decide +kernel) (by decide +kernel))
  have HK := Lib.hid fun w1 => keep_num 5 w1
  go_enter Tryd.func5, Tryd.ntmps5
  go_wp2_with (first
    | ((with_reducible refine (HO2.out _).mono ?_); rintro e w5 ⟨y, rfl, hyt, hyl, hE5⟩)
    | ((with_reducible refine (HO1.out w).mono ?_); rintro e w1 ⟨x, rfl, hxt, hxl, hE1⟩)
    | (have hh := hE5; (with_reducible refine (HU.out _).mono ?_); rintro e w6 ⟨rfl, hC6, hE6⟩)
    | ((with_reducible refine (HU.out _).mono ?_); rintro e w2 ⟨rfl, hC2, hE2⟩)
    | ((with_reducible refine (HN.out w2).mono ?_); rintro e w3 ⟨A3, n3, cap3, rfl, hV3, hE3⟩)
    | ((with_reducible refine (HE.out x _ _ _ _ _ _ _ _ hxt (hxl.ev (hE2.trans hE3)) (hC2.ev hE3) hV3).mono ?_); rintro e w4 ⟨rfl, hE4⟩; have hB4 := Boxed.new 1 5 ⟨#[]⟩ w4)
    | ((with_reducible refine (HT.out y _ _ _ _ _ hyt (hyl.ev hE6) hC6).mono ?_); rintro e w7 ⟨rfl, hE7⟩; have HB := hB4.ev ((hE5.trans hE6).trans hE7); have E7 := ((((((hE1.trans hE2).trans hE3).trans hE4).trans (Ev.alloc w4 (.cells #[.int .i64 1, .int .i64 5, .string ⟨#[]⟩] 46))).trans hE5).trans hE6).trans hE7))
  generalize w4.heap.size = pv at *
  refine wp_region_slots hmix [fun v _ => v = vv 1 5 ⟨#[]⟩, fun v _ => v = vv 1 5 ⟨#[]⟩, fun v _ => v = .bool true, fun v _ => v = .bool true, fun v _ => v = .int .i64 0, fun v _ => v = .bool true, fun v _ => v = .bool true, fun v _ => v = .bool true, fun v _ => v = .int .i64 22, fun v _ => v = .bool true, fun v _ => v = .bool true, fun v _ => v = .bool true]
    30 rfl (by kernel_rfl) ⟨mono_eq _, mono_eq _, mono_eq _, mono_eq _, mono_eq _, mono_eq _, mono_eq _, mono_eq _, mono_eq _, mono_eq _, mono_eq _, mono_eq _, trivial⟩ ?_ ?_
  · refine ops_cons 0 ?_ (ops_cons 1 ?_ (ops_cons 2 ?_ (ops_cons 3 ?_ (ops_cons 4 ?_ (ops_cons 5 ?_ (ops_cons 6 ?_ (ops_cons 7 ?_ (ops_cons 8 ?_ (ops_cons 9 ?_ (ops_cons 10 ?_ (ops_cons 11 ?_ (ops_nil 12))))))))))))
    · refine op_value fun a w c => ⟨(wanted_plain rfl), _, run_load_val rfl ((c.was 1 (by kernel_rfl) rfl) : a.eval (.tmp 1) = .pointer (some ⟨pv, 0, none⟩)) (HB.ev c.ev), rfl⟩
    · refine op_call fun a w c => ⟨(wanted_plain rfl), 19, #[.int .i64 5], ?_, ?_⟩
      · rw [run_call 19 _ _ rfl (by kernel_rfl)]
        simp [evc]
      · refine (HK.out w).mono ?_
        rintro e w2 ⟨rfl, hE⟩
        exact ⟨_, rfl, hE, rfl⟩
    · refine op_value fun a w c => ⟨(wanted_plain rfl), _, op_eq_val rfl ((c.new 0 19 (by kernel_rfl) (by kernel_rfl)) : a.eval (.tmp 19) = vv 1 5 ⟨#[]⟩) ((c.new 1 20 (by kernel_rfl) (by kernel_rfl)) : a.eval (.tmp 20) = vv 1 5 ⟨#[]⟩), congrArg Value.bool (sameV_self _ _ _)⟩
    · refine op_value fun a w c => ⟨(wanted_plain rfl), _, run_move _ rfl w, (c.new 2 21 (by kernel_rfl) (by kernel_rfl))⟩
    · refine op_value fun a w c => ⟨(wanted_yes rfl (by kernel_rfl) (c.new 3 22 (by kernel_rfl) (by kernel_rfl))), _, run_move _ rfl w, (c.was 2 (by kernel_rfl) rfl)⟩
    · refine op_value fun a w c => ⟨(wanted_yes rfl (by kernel_rfl) (c.new 3 22 (by kernel_rfl) (by kernel_rfl))), .bool true, ?_, rfl⟩
      have e23 : a.eval (.tmp 23) = .int .i64 0 := (c.new 4 23 (by kernel_rfl) (by kernel_rfl))
      have kc0 : a.eval (.const (.int .i64 0)) = .int .i64 0 := rfl
      generalize a.eval = ρ at e23 kc0 ⊢
      simp [execOp, e23, kc0, go_sem]
    · refine op_value fun a w c => ⟨(wanted_plain rfl), _, run_pick_true rfl (c.new 3 22 (by kernel_rfl) (by kernel_rfl)) w, (c.new 5 24 (by kernel_rfl) (by kernel_rfl))⟩
    · refine op_value fun a w c => ⟨(wanted_plain rfl), _, run_move _ rfl w, (c.new 6 25 (by kernel_rfl) (by kernel_rfl))⟩
    · refine op_value fun a w c => ⟨(wanted_yes rfl (by kernel_rfl) (c.new 7 26 (by kernel_rfl) (by kernel_rfl))), _, run_move _ rfl w, (c.was 4 (by kernel_rfl) rfl)⟩
    · refine op_value fun a w c => ⟨(wanted_yes rfl (by kernel_rfl) (c.new 7 26 (by kernel_rfl) (by kernel_rfl))), .bool true, ?_, rfl⟩
      have e27 : a.eval (.tmp 27) = .int .i64 22 := (c.new 8 27 (by kernel_rfl) (by kernel_rfl))
      have kc0 : a.eval (.const (.int .i64 22)) = .int .i64 22 := rfl
      generalize a.eval = ρ at e27 kc0 ⊢
      simp [execOp, e27, kc0, go_sem]
    · refine op_value fun a w c => ⟨(wanted_plain rfl), _, run_pick_true rfl (c.new 7 26 (by kernel_rfl) (by kernel_rfl)) w, (c.new 9 28 (by kernel_rfl) (by kernel_rfl))⟩
    · refine op_value fun a w c => ⟨(wanted_plain rfl), _, run_assign _ rfl w, (c.new 10 29 (by kernel_rfl) (by kernel_rfl))⟩
  intro sl wr hEr hold hnew
  have f1 : sl 1 = .pointer (some ⟨pv, 0, none⟩) := hold 1 (by kernel_rfl)
  have f2 : sl 2 = .int .i64 0 := hold 2 (by kernel_rfl)
  have f4 : sl 4 = .int .i64 22 := hold 4 (by kernel_rfl)
  have f0 : sl 0 = .bool true := hnew 11 0 (by kernel_rfl)
  have f19 : sl 19 = vv 1 5 ⟨#[]⟩ := hnew 0 19 (by kernel_rfl)
  have f20 : sl 20 = vv 1 5 ⟨#[]⟩ := hnew 1 20 (by kernel_rfl)
  have f21 : sl 21 = .bool true := hnew 2 21 (by kernel_rfl)
  have f22 : sl 22 = .bool true := hnew 3 22 (by kernel_rfl)
  have f23 : sl 23 = .int .i64 0 := hnew 4 23 (by kernel_rfl)
  have f24 : sl 24 = .bool true := hnew 5 24 (by kernel_rfl)
  have f25 : sl 25 = .bool true := hnew 6 25 (by kernel_rfl)
  have f26 : sl 26 = .bool true := hnew 7 26 (by kernel_rfl)
  have f27 : sl 27 = .int .i64 22 := hnew 8 27 (by kernel_rfl)
  have f28 : sl 28 = .bool true := hnew 9 28 (by kernel_rfl)
  have f29 : sl 29 = .bool true := hnew 10 29 (by kernel_rfl)
  change Exit.then _ _ .normal ⟨#[sl 0, sl 1, sl 2, sl 3, sl 4, sl 5, sl 6, sl 7, sl 8, sl 9, sl 10, sl 11, sl 12, sl 13, sl 14, sl 15, sl 16, sl 17, sl 18, sl 19, sl 20, sl 21, sl 22, sl 23, sl 24, sl 25, sl 26, sl 27, sl 28, sl 29], _⟩ _
  simp only [f1, f2, f4, f0, f19, f20, f21, f22, f23, f24, f25, f26, f27, f28, f29]
  clear hold hnew
  go_wp2
  go_ret
  exact ⟨rfl, E7.trans hEr⟩
end Go.Proofs.YtnljagmpeifikaaDoor
