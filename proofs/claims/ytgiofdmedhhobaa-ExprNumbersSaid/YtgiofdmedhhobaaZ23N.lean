/-
  Texts that belong together: The walk of ExprNumbers.
-/
import Derived.Test.YtgiofdmedhhobaaZ22N
import Derived.Test.YtgiofdmedhhobaaZ19N
namespace Go.Proofs.Ytgiofdmedhhobaa
open Go.RowKit
set_option linter.unusedVariables false

theorem wp_world_eq2 {P : Program} {c : Code} {Q : Exit → Act → World → Prop} {a : Act} {w w' : World} (h : w = w') (hc : c.wp P Q a w') : c.wp P Q a w := h ▸ hc
def enTexts : List By := [[97], [120], [116, 97, 98, 108, 101], [53], [34, 113, 34], [40, 41], [40, 97, 100, 100, 32, 97, 41], [40, 97, 100, 100, 32, 97, 32, 98, 41], [40, 97, 100, 100, 32, 98, 32, 98, 41], [40, 97, 100, 100, 32, 98, 32, 49, 41], [40, 97, 100, 100, 32, 97, 32, 49, 32, 50, 41], [40, 115, 117, 98, 32, 97, 32, 98, 41], [40, 115, 117, 98, 32, 98, 32, 49, 41], [40, 115, 117, 98, 32, 48, 32, 98, 41], [40, 109, 117, 108, 32, 98, 32, 45, 49, 41], [40, 109, 117, 108, 32, 45, 49, 32, 98, 41], [40, 109, 117, 108, 32, 98, 32, 49, 41], [40, 109, 117, 108, 32, 97, 32, 97, 41], [40, 109, 117, 108, 32, 98, 32, 50, 41], [40, 109, 117, 108, 32, 52, 54, 49, 49, 54, 56, 54, 48, 49, 56, 52, 50, 55, 51, 56, 55, 57, 48, 52, 32, 45, 50, 41], [40, 109, 117, 108, 32, 52, 54, 49, 49, 54, 56, 54, 48, 49, 56, 52, 50, 55, 51, 56, 55, 57, 48, 52, 32, 50, 41], [40, 109, 117, 108, 32, 51, 48, 51, 55, 48, 48, 48, 53, 48, 48, 32, 51, 48, 51, 55, 48, 48, 48, 53, 48, 48, 41], [40, 110, 101, 103, 32, 98, 41], [40, 110, 101, 103, 32, 97, 41], [40, 110, 101, 103, 32, 115, 41], [40, 101, 113, 32, 97, 32, 98, 41], [40, 101, 113, 32, 115, 32, 34, 104, 101, 121, 34, 41], [40, 101, 113, 32, 115, 32, 97, 41], [40, 108, 116, 32, 97, 32, 98, 41], [40, 108, 116, 32, 115, 32, 34, 120, 34, 41], [40, 97, 110, 100, 32, 97, 32, 98, 41], [40, 111, 114, 32, 48, 32, 97, 41], [40, 111, 114, 32, 48, 32, 48, 41], [40, 110, 111, 116, 32, 97, 41], [40, 110, 111, 116, 32, 115, 41], [40, 99, 97, 116, 32, 115, 32, 115, 41], [40, 99, 97, 116, 32, 115, 32, 49, 41], [40, 108, 101, 110, 32, 115, 41], [40, 108, 101, 110, 32, 97, 41], [40, 105, 102, 32, 97, 32, 115, 32, 34, 110, 111, 34, 41], [40, 105, 102, 32, 115, 32, 49, 32, 50, 41], [40, 105, 102, 32, 97, 32, 49, 32, 115, 41], [40, 105, 102, 32, 97, 32, 40, 97, 100, 100, 32, 98, 32, 98, 41, 32, 49, 41], [40, 105, 102, 32, 97, 32, 49, 32, 40, 110, 101, 103, 32, 98, 41, 41], [40, 102, 111, 111, 32, 97, 41], [40, 97, 32, 98, 41], [40, 40, 97, 41, 32, 98, 41], [40, 105, 102, 32, 97, 32, 98, 41], [40, 97, 110, 100, 32, 40, 110, 101, 103, 32, 98, 41, 32, 48, 41], [40, 99, 97, 116, 32, 115, 32, 34, 48, 49, 50, 51, 52, 53, 54, 55, 56, 57, 48, 49, 50, 51, 52, 53, 54, 55, 56, 57, 48, 49, 50, 51, 52, 53, 54, 55, 56, 57, 48, 49, 50, 51, 52, 53, 54, 55, 56, 57, 34, 41], [40, 101, 113, 32, 40, 101, 113, 32, 49, 32, 49, 41, 32, 49, 41]]
def enCells : Array Value := (enTexts.map fun l => Value.string ⟨l.toArray⟩).toArray
theorem en_cell {w : World} {k : Nat} {s : By} (h : enTexts[k]? = some s) : (w.alloc (.cells enCells 9)).cell? ⟨w.heap.size, k, none⟩ = some (.string ⟨s.toArray⟩) := by
  rw [Lib.cell_of_heap (heap_alloc_new w _)]
  unfold enCells
  rw [List.getElem?_toArray, List.getElem?_map, h]
  rfl
theorem en_short : enTexts.all (fun s => decide (s.length ≤ 600)) = true := by decide +kernel
theorem en_len : enTexts.length = 51 := rfl
def rowA : List V := [numV 3, numV (-9223372036854775808), (2, 0, ⟨#[104, 101, 121]⟩)]
def rowB : List V := [numV 0, numV 9223372036854775807, (2, 0, ⟨#[]⟩)]
def rowAt (i : Nat) : List V := if i = 0 then rowA else rowB
theorem rowAt_fair (i : Nat) : ∀ y ∈ rowAt i, fairV y := by
  intro y hy
  unfold rowAt rowA rowB at hy
  split at hy
  · simp only [List.mem_cons, List.not_mem_nil, or_false] at hy
    rcases hy with rfl | rfl | rfl
    · exact fair_num (by decide)
    · exact fair_num (by decide)
    · exact fair_str (by decide)
  · simp only [List.mem_cons, List.not_mem_nil, or_false] at hy
    rcases hy with rfl | rfl | rfl
    · exact fair_num (by decide)
    · exact fair_num (by decide)
    · exact fair_str (by decide)
/-- What stays. -/
structure EnS (w : World) (gc gw g0 g1 gt : Nat) (wr : World) : Prop where
  cols : Cs wr (some ⟨gc, 0, none⟩) 3 3 tcols
  r0 : wr.cell? ⟨gw, 0, none⟩ = some (.slice (some ⟨g0, 0, none⟩) 3 3)
  r1 : wr.cell? ⟨gw, 1, none⟩ = some (.slice (some ⟨g1, 0, none⟩) 3 3)
  v0 : Vs wr (some ⟨g0, 0, none⟩) 3 3 rowA
  v1 : Vs wr (some ⟨g1, 0, none⟩) 3 3 rowB
  gwl : gw < wr.heap.size
  txt : ∀ k s, enTexts[k]? = some s → wr.cell? ⟨gt, k, none⟩ = some (.string ⟨s.toArray⟩)
  gtl : gt < wr.heap.size
  all : Ev w wr
theorem EnS.ev {w : World} {gc gw g0 g1 gt : Nat} {wr ws : World} (h : EnS w gc gw g0 g1 gt wr) (hE : Ev wr ws) : EnS w gc gw g0 g1 gt ws :=
  ⟨h.cols.ev hE, (hE.cell (p := ⟨gw, 0, none⟩) h.gwl).trans h.r0, (hE.cell (p := ⟨gw, 1, none⟩) h.gwl).trans h.r1, h.v0.ev hE, h.v1.ev hE, Nat.lt_of_lt_of_le h.gwl hE.size, fun k s hs => (hE.cell (p := ⟨gt, k, none⟩) h.gtl).trans (h.txt k s hs), Nat.lt_of_lt_of_le h.gtl hE.size, h.all.trans hE⟩
/-- What stays of one text: its expression in its box. -/
structure EnX (gx : Nat) (x : M) (wr : World) : Prop where
  bx : Bx 39 gx #[.int .i64 x.kind, .string ⟨x.s.toArray⟩, .int .i64 x.n, .slice x.A x.kids.length x.cap] wr
  lx : Lx 0 [] wr x
theorem EnX.ev {gx : Nat} {x : M} {wr ws : World} (h : EnX gx x wr) (hE : Ev wr ws) : EnX gx x ws := ⟨h.bx.ev hE, h.lx.ev hE⟩
theorem value_a : xValue tcols ([1].map numV) (.mk 1 [97] 0 [] 0) = ((0, 0, ⟨#[]⟩), 22) := by kernel_rfl
theorem type_add : xType tcols (.mk 4 bAdd 0 [] 0) = (0, 22) := by kernel_rfl
theorem xOf_a : xOf [97] = .mk 1 [97] 0 [] 0 := by kernel_rfl
theorem xOk_a : (rfRead [97]).1.every fairB = true ∧ (rfRead [97]).1.size ≤ 100000 := by decide +kernel
def useT : T := .mk 4 bAdd 0 [.mk 1 [98] 0 [] 0, .mk 4 bMul 0 [.mk 1 [97] 0 [] 0, .mk 1 [98] 0 [] 0] 0] 0
theorem xOf_use : xOf [40, 97, 100, 100, 32, 98, 32, 40, 109, 117, 108, 32, 97, 32, 98, 41, 41] = useT := by kernel_rfl
theorem xOk_use : (rfRead [40, 97, 100, 100, 32, 98, 32, 40, 109, 117, 108, 32, 97, 32, 98, 41, 41]).1.every fairB = true ∧ (rfRead [40, 97, 100, 100, 32, 98, 32, 40, 109, 117, 108, 32, 97, 32, 98, 41, 41]).1.size ≤ 100000 := by decide +kernel
theorem uses_ab {ns : List By} (h : ∀ p : By → Bool, ns.all p = useT.every (usedB p)) : Lib.compact (sortS ns) = [[97], [98]] := by
  refine compact_sort_eq (fun x => ?_) ?_
  · rw [mem_of_all h]
    have e : useT.every (usedB fun y => !(y == x)) = (!([98] == x) && (!([97] == x) && !([98] == x))) := by
      simp [useT, T.every, T.everys, usedB, T.kind, T.s]
    rw [e]
    simp only [List.mem_cons, List.not_mem_nil, or_false]
    by_cases h1 : ([98] : By) = x
    · subst h1
      simp
    · by_cases h2 : ([97] : By) = x
      · subst h2
        simp
      · rw [beq_eq_false_iff_ne.2 h1, beq_eq_false_iff_ne.2 h2]
        simp [Ne.symm h1, Ne.symm h2]
  · unfold StrictS
    decide +kernel

theorem ss_ab (w : World) : Ss (w.alloc (.cells #[.string ⟨#[97]⟩, .string ⟨#[98]⟩] 9)) (some ⟨w.heap.size, 0, none⟩) 2 2 [[97], [98]] := by
  obtain ⟨A, cap, hv, hS, _⟩ := (Ow.made (et := 9) (base := 0) encS1 w [[97], [98]] #[.string ⟨#[97]⟩, .string ⟨#[98]⟩] rfl (Nat.zero_le _) (by decide)).form encS1
  injection hv with h1 _ h3
  subst h1; subst h3
  exact hS

set_option maxRecDepth 100000 in
set_option maxHeartbeats 64000000 in
theorem en_walk (w : World) : Calls Try.prog 3 #[] w fun e w' => e = .returned (.bool true) ∧ Ev w w' := by
  have hmix : Try.prog.follows .mixedOrders = true := by kernel_rfl
  have HKn := Lib.hid (fun w1 => known8_any w1)
  have HTC := Lib.hid (fun w1 => keep_tF w1)
  have HN := Lib.hid (fun n w1 => keep_num n w1)
  have HST := Lib.hid (fun s w1 => keep_str s w1)
  go_enter Try.func3, Try.ntmps3
  go_wp2_with (first
    | ((with_reducible refine (HTC.out _).mono ?_); rintro e w1 ⟨v, rfl, hE1, gc, cs, rfl, _, hC1⟩)
    | (have hh := K5; (with_reducible refine (HN.out _ _).mono ?_); rintro r w6 ⟨rfl, hE6⟩; have K6 := K5.trans hE6)
    | (have hh := K4; (with_reducible refine (HN.out _ _).mono ?_); rintro r w5 ⟨rfl, hE5⟩; have V0 := Lib.hid ((Vs.made rowA 3 rfl (by decide) w4 #[.int .i64 1, .int .i64 3, .string ⟨#[]⟩, .int .i64 1, .int .i64 (-9223372036854775808), .string ⟨#[]⟩, .int .i64 2, .int .i64 0, .string ⟨#[104, 101, 121]⟩] rfl).ev hE5); have K5 := (K4.trans (Ev.alloc w4 (.cells #[.int .i64 1, .int .i64 3, .string ⟨#[]⟩, .int .i64 1, .int .i64 (-9223372036854775808), .string ⟨#[]⟩, .int .i64 2, .int .i64 0, .string ⟨#[104, 101, 121]⟩] 25))).trans hE5)
    | (have hh := K2; (with_reducible refine (HN.out _ _).mono ?_); rintro r w3 ⟨rfl, hE3⟩; have K3 := K2.trans hE3)
    | ((with_reducible refine (HN.out _ _).mono ?_); rintro r w2 ⟨rfl, hE2⟩; have K2 := hE2)
    | (have hh := K6; (with_reducible refine (HST.out _ _).mono ?_); rintro r w7 ⟨rfl, hE7⟩; have K7 := K6.trans hE7; have V0' := Lib.hid (V0.out.ev (hE6.trans hE7)))
    | ((with_reducible refine (HST.out _ _).mono ?_); rintro r w4 ⟨rfl, hE4⟩; have K4 := K3.trans hE4))
  refine wp_world_eq2 (w' := ((w7.alloc (.cells #[.int .i64 1, .int .i64 0, .string ⟨#[]⟩, .int .i64 1, .int .i64 9223372036854775807, .string ⟨#[]⟩, .int .i64 2, .int .i64 0, .string ⟨#[]⟩] 25)).alloc (.cells #[.slice (some ⟨w4.heap.size, 0, none⟩) 3 3, .slice (some ⟨w7.heap.size, 0, none⟩) 3 3] 29)).alloc (.cells enCells 9)) (by kernel_rfl) ?_
  have hB7 := Vs.made rowB 3 rfl (by decide) w7 #[.int .i64 1, .int .i64 0, .string ⟨#[]⟩, .int .i64 1, .int .i64 9223372036854775807, .string ⟨#[]⟩, .int .i64 2, .int .i64 0, .string ⟨#[]⟩] rfl
  generalize hwa : w7.alloc (.cells #[.int .i64 1, .int .i64 0, .string ⟨#[]⟩, .int .i64 1, .int .i64 9223372036854775807, .string ⟨#[]⟩, .int .i64 2, .int .i64 0, .string ⟨#[]⟩] 25) = wa at *
  have hEa : Ev w7 wa := by rw [← hwa]; exact Ev.alloc _ _
  have hsz : wa.heap.size = w7.heap.size + 1 := by rw [← hwa]; simp
  have hcr := heap_alloc_new wa (.cells #[.slice (some ⟨w4.heap.size, 0, none⟩) 3 3, .slice (some ⟨w7.heap.size, 0, none⟩) 3 3] 29)
  have hEr0 := Ev.alloc wa (.cells #[.slice (some ⟨w4.heap.size, 0, none⟩) 3 3, .slice (some ⟨w7.heap.size, 0, none⟩) 3 3] 29)
  have hsr : (wa.alloc (.cells #[.slice (some ⟨w4.heap.size, 0, none⟩) 3 3, .slice (some ⟨w7.heap.size, 0, none⟩) 3 3] 29)).heap.size = w7.heap.size + 1 + 1 := by simp [hsz]
  generalize wa.alloc (.cells #[.slice (some ⟨w4.heap.size, 0, none⟩) 3 3, .slice (some ⟨w7.heap.size, 0, none⟩) 3 3] 29) = wb at *
  have hct := fun k s (h : enTexts[k]? = some s) => en_cell (w := wb) h
  have hEt := Ev.alloc wb (.cells enCells 9)
  have hst : wb.heap.size < (wb.alloc (.cells enCells 9)).heap.size := by simp
  generalize wb.alloc (.cells enCells 9) = wT at *
  have SS : EnS w gc wa.heap.size w4.heap.size w7.heap.size wb.heap.size wT :=
    ⟨hC1.ev (((K7.trans hEa).trans hEr0).trans hEt), (hEt.cell (p := ⟨wa.heap.size, 0, none⟩) (by have := (Array.getElem?_eq_some_iff.1 hcr).1; exact this)).trans (by rw [Lib.cell_of_heap hcr]; rfl),
     (hEt.cell (p := ⟨wa.heap.size, 1, none⟩) (by have := (Array.getElem?_eq_some_iff.1 hcr).1; exact this)).trans (by rw [Lib.cell_of_heap hcr]; rfl),
     V0'.out.ev ((hEa.trans hEr0).trans hEt), hB7.ev (hEr0.trans hEt), by omega, hct, hst, (hE1.trans K7).trans ((hEa.trans hEr0).trans hEt)⟩
  have HSS := Lib.hid SS
  rw [hsz] at HSS
  rw [hsr] at HSS
  have hgw : w7.heap.size + 1 = w7.heap.size + 1 := rfl
  clear hgw hct hst hEt hEr0 hcr hB7 hEa hsz hsr hwa SS V0 V0' K2 K3 K4 K5 K6 K7 hE1 hE2 hE3 hE4 hE5 hE6 hE7 hC1
  generalize w7.heap.size + 1 + 1 = gt at *
  generalize w7.heap.size + 1 = gw at *
  generalize w7.heap.size = g1 at *
  generalize w4.heap.size = g0 at *
  go_loopw [39] (fun iv wr => ∃ q : Nat, q ≤ 51 ∧ iv = .int .i64 (q : Int) ∧ Hid (EnS w gc gw g0 g1 gt wr)) (fun iv _ => 51 - (intOf iv).toNat)
  case atStart => exact ⟨0, Nat.zero_le _, rfl, HSS⟩
  case round =>
    obtain ⟨q, hq, rfl, HS⟩ := hrel
    by_cases hlt : q < 51
    · obtain ⟨s, hs⟩ : ∃ s, enTexts[q]? = some s := ⟨_, List.getElem?_eq_getElem (by rw [en_len]; omega)⟩
      have hsl : s.length ≤ 600 := of_decide_eq_true (List.all_eq_true.1 en_short s (List.mem_of_getElem? hs))
      have cc := HS.out.txt q s hs
      have hsm := rf_small s
      have HR := fun w1 => rf_read ⟨s.toArray⟩ w1 (by show s.length ≤ 100000; omega)
      unfold ReadOut at HR
      simp only [] at HR
      generalize rfRead s = R at *
      obtain ⟨Rt, Rw, Rp⟩ := R
      simp only at HR hsm
      have HR := Lib.hid HR
      obtain ⟨hfair, hsz⟩ := hsm
      have HO := Lib.hid (fun (m : M) w0 w1 (hm : m.t = Rt) (hL : Lies w0 [] w1 m) => by
        have h := law8_out m.dep m w0 w1 (Nat.le_refl _) hL (by rw [hm]; omega)
        unfold mv M.kv at h
        exact h)
      have HRD := Lib.hid (fun (m : M) w0 w1 (hm : m.t = Rt) (hL : Lies w0 [] w1 m) => by
        have h := ex_Read m w0 w1 hL (by rw [hm]; exact hfair) (by rw [hm]; omega)
        rw [hm] at h
        exact h)
      have HRX := Lib.hid (fun (m : M) w0 w1 (hm : m.t = Rt) (hL : Lies w0 [] w1 m) => by
        have h := rx_read m.dep m w0 w1 (Nat.le_refl _) hL (by rw [hm]; exact hfair) (by rw [hm]; omega)
        unfold mv M.kv at h
        rw [hm] at h
        exact h)
      have hxf := xRead_fair Rt hfair
      have hxz := xRead_size Rt
      have HXF := Lib.hid hxf
      have HXZ : Hid ((xRead Rt).1.size ≤ 601) := Lib.hid (by omega)
      clear hfair hsz hxf hxz hs hsl
      unfold TrOut at HO
      unfold RxOut at HRD HRX
      generalize xRead Rt = RR at *
      obtain ⟨RT, RE, RP⟩ := RR
      simp only at HRD HRX HXF HXZ
      have i3 : (0 : Int) ≤ (q : Int) := by omega
      have i4 : (q : Int) < 51 := by omega
      go_upto_region 9 with (first
        | ((with_reducible refine (HR.out _).mono ?_); rintro r w1 ⟨m, rfl, hmt, hml, hE1⟩; simp only []; have HMT := Lib.hid hmt; have HML := Lib.hid (hml.ev (Ev.alloc w1 (.cells #[.int .i64 m.kind, .string ⟨m.s.toArray⟩, .int .i64 m.n, .slice m.A m.kids.length m.cap, .int .i64 (m.pos : Int)] 34))); have HE1 := Lib.hid (hE1.trans (Ev.alloc w1 (.cells #[.int .i64 m.kind, .string ⟨m.s.toArray⟩, .int .i64 m.n, .slice m.A m.kids.length m.cap, .int .i64 (m.pos : Int)] 34))); have BM := Lib.hid (Bx.new 34 #[.int .i64 m.kind, .string ⟨m.s.toArray⟩, .int .i64 m.n, .slice m.A m.kids.length m.cap, .int .i64 (m.pos : Int)] w1); clear hmt hml cc; obtain ⟨⟨c0, c1, c2, c3, c4⟩, _⟩ := BM.out.five)
        | ((with_reducible refine (HO.out m _ _ HMT.out HML.out).mono ?_); rintro r w2 ⟨m2, rfl, hm2t, hm2l, hE2⟩; have HM2T := Lib.hid (hm2t.trans HMT.out); have HM2L := Lib.hid hm2l; have HE2 := Lib.hid hE2; clear hm2t hm2l)
        | ((with_reducible refine (HRD.out m2 _ _ HM2T.out HM2L.out).mono ?_); rintro r w3 ⟨x1, rfl, hx1t, hx1l, hE3⟩; simp only []; have HX1T := Lib.hid hx1t; have HX1L := Lib.hid hx1l; have HE3 := Lib.hid ((HE2.out.trans hE3).trans (Ev.alloc w3 (.cells #[.int .i64 x1.kind, .string ⟨x1.s.toArray⟩, .int .i64 x1.n, .slice x1.A x1.kids.length x1.cap] 39))); have BX1 := Lib.hid (Bx.new 39 #[.int .i64 x1.kind, .string ⟨x1.s.toArray⟩, .int .i64 x1.n, .slice x1.A x1.kids.length x1.cap] w3); clear hx1t hx1l c0 c1 c2 c3 c4; obtain ⟨⟨c0, c1, c2, c3, c4⟩, _⟩ := (BM.out.ev HE3.out).five)
        | ((with_reducible refine (HRX.out m _ _ HMT.out (HML.out.ev HE3.out)).mono ?_); rintro r w4 ⟨x2, rfl, hx2t, hx2l, hE4⟩; simp only []; have HX2T := Lib.hid hx2t; have HX2L := Lib.hid hx2l; have HE4 := Lib.hid (hE4.trans (Ev.alloc w4 (.cells #[.int .i64 x2.kind, .string ⟨x2.s.toArray⟩, .int .i64 x2.n, .slice x2.A x2.kids.length x2.cap] 39))); have BX2 := Lib.hid (Bx.new 39 #[.int .i64 x2.kind, .string ⟨x2.s.toArray⟩, .int .i64 x2.n, .slice x2.A x2.kids.length x2.cap] w4); clear hx2t hx2l c0 c1 c2 c3 c4; obtain ⟨⟨c0, c1, c2, c3⟩, _⟩ := (BX1.out.ev HE4.out).four; obtain ⟨⟨d0, d1, d2, d3⟩, _⟩ := BX2.out.four))
      have hL1 := (HX1L.out.ev ((Ev.alloc w3 (.cells #[.int .i64 x1.kind, .string ⟨x1.s.toArray⟩, .int .i64 x1.n, .slice x1.A x1.kids.length x1.cap] 39)).trans HE4.out)).low0
      have hL2 := (HX2L.out.ev (Ev.alloc w4 (.cells #[.int .i64 x2.kind, .string ⟨x2.s.toArray⟩, .int .i64 x2.n, .slice x2.A x2.kids.length x2.cap] 39))).low0
      have hb1 := BX1.out.ev HE4.out
      have hb2 := BX2.out
      have hall := (HE1.out.trans HE3.out).trans HE4.out
      generalize hu4 : w4.alloc (.cells #[.int .i64 x2.kind, .string ⟨x2.s.toArray⟩, .int .i64 x2.n, .slice x2.A x2.kids.length x2.cap] 39) = u4 at *
      generalize w4.heap.size = gx at *
      generalize w3.heap.size = gy at *
      have HXT := Lib.hid HX2T.out
      have hKE : Calls Try.prog 11 #[.slice (some ⟨u4.heap.size, 0, none⟩) 1 1, .slice (some ⟨u4.heap.size + 1, 0, none⟩) 1 1] ((u4.alloc (.cells #[.int .i64 x1.kind, .string ⟨x1.s.toArray⟩, .int .i64 x1.n, .slice x1.A x1.kids.length x1.cap] 39)).alloc (.cells #[.int .i64 x2.kind, .string ⟨x2.s.toArray⟩, .int .i64 x2.n, .slice x2.A x2.kids.length x2.cap] 39)) fun e w' => e = .returned (.bool true) ∧ Ev ((u4.alloc (.cells #[.int .i64 x1.kind, .string ⟨x1.s.toArray⟩, .int .i64 x1.n, .slice x1.A x1.kids.length x1.cap] 39)).alloc (.cells #[.int .i64 x2.kind, .string ⟨x2.s.toArray⟩, .int .i64 x2.n, .slice x2.A x2.kids.length x2.cap] 39)) w' := by
        have hA := Sl.one (et := 39) encE u4 x1 _ rfl
        have hB0 := Sl.one (et := 39) encE (u4.alloc (.cells #[.int .i64 x1.kind, .string ⟨x1.s.toArray⟩, .int .i64 x1.n, .slice x1.A x1.kids.length x1.cap] 39)) x2 _ rfl
        have hB : Es ((u4.alloc (.cells #[.int .i64 x1.kind, .string ⟨x1.s.toArray⟩, .int .i64 x1.n, .slice x1.A x1.kids.length x1.cap] 39)).alloc (.cells #[.int .i64 x2.kind, .string ⟨x2.s.toArray⟩, .int .i64 x2.n, .slice x2.A x2.kids.length x2.cap] 39)) (some ⟨u4.heap.size + 1, 0, none⟩) 1 1 [x2] := by
          rw [show (u4.alloc (.cells #[.int .i64 x1.kind, .string ⟨x1.s.toArray⟩, .int .i64 x1.n, .slice x1.A x1.kids.length x1.cap] 39)).heap.size = u4.heap.size + 1 by simp] at hB0
          exact hB0
        exact keep_exprs_one x1 x2 _ _ _ (hA.ev (Ev.alloc _ _)) hB (hL1.ev ((Ev.alloc _ _).trans (Ev.alloc _ _))) (hL2.ev ((Ev.alloc _ _).trans (Ev.alloc _ _))) (HX1T.out.trans HX2T.out.symm)
      have HKE := Lib.hid hKE
      have HX := Lib.hid (⟨hb2, hL2⟩ : EnX gx x2 u4)
      have HALL := Lib.hid hall
      clear hu4 hKE hb2 hL2 hL1 hall HX1T HX1L HX2L HX2T BX1 BX2 BM HE1 HE2 HE3 HE4 HM2T HM2L HMT HML c0 c1 c2 c3 d0 d1 d2 d3
      obtain ⟨⟨c0, c1, c2, c3⟩, _⟩ := hb1.four
      obtain ⟨⟨d0, d1, d2, d3⟩, _⟩ := HX.out.bx.four
      obtain ⟨⟨d0', d1', d2', d3'⟩, _⟩ := (HX.out.bx.ev (Ev.alloc u4 (.cells #[.int .i64 x1.kind, .string ⟨x1.s.toArray⟩, .int .i64 x1.n, .slice x1.A x1.kids.length x1.cap] 39))).four
      clear hb1
      go_upto_if 77 with (first
        | ((with_reducible refine (HKE.out).mono ?_); rintro r w5 ⟨rfl, hE5⟩; have HS5 := Lib.hid (HS.out.ev (HALL.out.trans (((Ev.alloc _ _).trans (Ev.alloc _ _)).trans hE5))); have HX5 := Lib.hid (HX.out.ev (((Ev.alloc _ _).trans (Ev.alloc _ _)).trans hE5))))
      clear c0 c1 c2 c3 d0 d1 d2 d3 d0' d1' d2' d3' HKE HX HALL
      generalize hxx : x2 = x at *
      have hT1 := fun w1 (hE : Ev w5 w1) => ex_type x 0 w1 _ _ _ tcols (HX5.out.lx.ev hE) (HS5.out.cols.ev hE) (by rw [HXT.out]; have := HXZ.out; omega) (fair_short (by rw [HXT.out]; exact HXF.out))
      have hT2 := fun w1 (hE : Ev w5 w1) => rx_type x 0 w1 _ _ _ tcols (HX5.out.lx.ev hE) (HS5.out.cols.ev hE) (by rw [HXT.out]; have := HXZ.out; omega) (by rw [HXT.out]; exact HXF.out)
      unfold ev_ M.kv at hT1 hT2
      generalize xType tcols x.t = TY at *
      obtain ⟨tk, ty⟩ := TY
      simp only at hT1 hT2
      have HT1 := Lib.hid hT1
      have HT2 := Lib.hid hT2
      clear hT1 hT2
      obtain ⟨⟨c0, c1, c2, c3⟩, _⟩ := HX5.out.bx.four
      go_wp2_with (first
        | ((with_reducible refine (HT1.out _ (Ev.refl _)).mono ?_); rintro r w6 ⟨rfl, hE6⟩; clear c0 c1 c2 c3; obtain ⟨⟨c0, c1, c2, c3⟩, _⟩ := (HX5.out.bx.ev hE6).four)
        | ((with_reducible refine (HT2.out _ hE6).mono ?_); rintro r w7 ⟨rfl, hE7⟩; clear c0 c1 c2 c3; have HS7 := Lib.hid (HS5.out.ev (hE6.trans hE7)); have HX7 := Lib.hid (HX5.out.ev (hE6.trans hE7))))
      clear HT1 HT2 hE6 hE7 HS5 HX5
      go_loopw [18] (fun iv wr => ∃ i : Nat, i ≤ 2 ∧ iv = .int .i64 (i : Int) ∧ Hid (EnS w gc gw g0 g1 gt wr) ∧ Hid (EnX gx x wr)) (fun iv _ => 2 - (intOf iv).toNat)
      case atStart => exact ⟨0, Nat.zero_le _, rfl, HS7, HX7⟩
      case round =>
        obtain ⟨i, hi, rfl, HSi, HXi⟩ := hrel
        by_cases hlt2 : i < 2
        · have i5 : (0 : Int) ≤ (i : Int) := by omega
          have i6 : (i : Int) < 2 := by omega
          obtain ⟨gr, hcr, hvr⟩ : ∃ gr, wr.cell? ⟨gw, i, none⟩ = some (.slice (some ⟨gr, 0, none⟩) 3 3) ∧ Vs wr (some ⟨gr, 0, none⟩) 3 3 (rowAt i) := by
            have h02 : i = 0 ∨ i = 1 := by omega
            rcases h02 with h | h
            · subst h
              exact ⟨g0, HSi.out.r0, HSi.out.v0⟩
            · subst h
              exact ⟨g1, HSi.out.r1, HSi.out.v1⟩
          have HCR := Lib.hid hcr
          have HVR := Lib.hid hvr
          clear hcr hvr
          have hE1 := fun w1 (hE : Ev wr w1) => ex_eval x 0 w1 _ _ _ tcols _ _ _ _ (HXi.out.lx.ev hE) (HSi.out.cols.ev hE) (HVR.out.ev hE) (by rw [HXT.out]; have := HXZ.out; omega) (rowAt_fair i) (by rw [HXT.out]; exact HXF.out)
          have hE2 := fun w1 (hE : Ev wr w1) => rx_Eval x 0 w1 _ _ _ tcols _ _ _ _ (HXi.out.lx.ev hE) (HSi.out.cols.ev hE) (HVR.out.ev hE) (by rw [HXT.out]; have := HXZ.out; omega) (rowAt_fair i) (by rw [HXT.out]; exact HXF.out)
          unfold ev_ M.kv at hE1 hE2
          unfold VOut at hE1 hE2
          generalize xValue tcols (rowAt i) x.t = VY at *
          obtain ⟨⟨vk, vn, vs_⟩, vy⟩ := VY
          simp only at hE1 hE2
          have HE1 := Lib.hid hE1
          have HE2a := Lib.hid hE2
          clear hE1 hE2
          go_upto_region 18 with fail
          have HGW := Lib.hid HSi.out.gwl
          refine wp_region_slotsN hmix (JV wr.heap.size) 11 19 10 (BxV wr.heap.size vk vn vs_) [fun v _ => v = .agg #[.int .i64 x.kind, .string ⟨x.s.toArray⟩, .int .i64 x.n, .slice x.A x.kids.length x.cap], fun v _ => v = .slice (some ⟨gc, 0, none⟩) 3 3, fun v _ => v = .slice (some ⟨gw, 0, none⟩) 2 2, fun v _ => v = .int .i64 (i : Int), fun v _ => v = .pointer (some ⟨gw, i, none⟩), fun v _ => v = .slice (some ⟨gr, 0, none⟩) 3 3, fun v _ => v = .tuple #[.agg #[.int .i64 vk, .int .i64 vn, .string vs_], .int .i64 vy], fun v _ => v = .tuple #[.agg #[.int .i64 vk, .int .i64 vn, .string vs_], .int .i64 vy], fun v _ => v = .agg #[.int .i64 vk, .int .i64 vn, .string vs_], fun v _ => v = .int .i64 vy, NewV wr.heap.size, fun _ _ => True, fun v _ => v = .int .i64 vy]
            160 rfl (by kernel_rfl) ⟨mono_eq _, mono_eq _, mono_eq _, mono_eq _, mono_eq _, mono_eq _, mono_eq _, mono_eq _, mono_eq _, mono_eq _, NewV.mono _, mono_true, mono_eq _, trivial⟩ ⟨.inr (.inr fun _ _ _ _ h => h), .inr (.inr fun _ _ _ _ h => h), .inr (.inr fun _ _ _ _ h => h), .inr (.inr fun _ _ _ _ h => h), .inr (.inr fun _ _ _ _ h => h), .inr (.inr fun _ _ _ _ h => h), .inr (.inr fun _ _ _ _ h => h), .inr (.inr fun _ _ _ _ h => h), .inr (.inr fun _ _ _ _ h => h), .inr (.inr fun _ _ _ _ h => h), .inr (.inr (NewV.jump _ _)), .inl rfl, .inr (.inr fun _ _ _ _ h => h), trivial⟩ (BxV.mono _ _ _ _) _ rfl (by kernel_rfl) (by kernel_rfl) ?_ ?_ ?_
          · refine opn_cons 0 ?_ (opn_cons 1 ?_ (opn_cons 2 ?_ (opn_cons 3 ?_ (opn_cons 4 ?_ (opn_cons 5 ?_ (opn_cons 6 ?_ (opn_cons 7 ?_ (opn_cons 8 ?_ (opn_cons 9 ?_ (opn_cons 10 ?_ (opn_store 11 (opn_cons 12 ?_ (opn_nil 13)))))))))))))
            · refine op_value fun a wq c => ⟨(wanted_plain rfl), _, run_load_box2 rfl ((c.was 11 (by kernel_rfl) rfl) : a.eval (.tmp 11) = .pointer (some ⟨gx, 0, none⟩)) (HXi.out.bx.ev c.ev) Try.underlying39 rfl Try.sizeExpr, rfl⟩
            · refine op_value fun a w c => ⟨(wanted_plain rfl), _, run_move _ rfl w, (c.was 1 (by kernel_rfl) rfl)⟩
            · refine op_value fun a w c => ⟨(wanted_plain rfl), _, run_move _ rfl w, (c.was 2 (by kernel_rfl) rfl)⟩
            · refine op_value fun a w c => ⟨(wanted_plain rfl), _, run_move _ rfl w, (c.was 18 (by kernel_rfl) rfl)⟩
            · refine op_value fun a wq c => ⟨(wanted_plain rfl), .pointer (some ⟨gw, i, none⟩), ?_, rfl⟩
              have e_0 : a.eval (.tmp 105) = .slice (some ⟨gw, 0, none⟩) 2 2 := (c.new 2 105 (by kernel_rfl) (by kernel_rfl))
              have e_1 : a.eval (.tmp 106) = .int .i64 (i : Int) := (c.new 3 106 (by kernel_rfl) (by kernel_rfl))
              generalize a.eval = ρ at e_0 e_1 ⊢
              simp [execOp, e_0, e_1, go_sem, i5, i6]
            · refine op_value fun a wq c => ⟨(wanted_plain rfl), .slice (some ⟨gr, 0, none⟩) 3 3, ?_, rfl⟩
              have e_0 : a.eval (.tmp 107) = .pointer (some ⟨gw, i, none⟩) := (c.new 4 107 (by kernel_rfl) (by kernel_rfl))
              have hc := (c.ev.cell (p := ⟨gw, i, none⟩) HGW.out).trans HCR.out
              generalize a.eval = ρ at e_0 ⊢
              simp [execOp, e_0, hc, go_sem]
            · refine op_call fun a wq c => ?_
              refine ⟨(wanted_plain rfl), 14, #[.agg #[.int .i64 x.kind, .string ⟨x.s.toArray⟩, .int .i64 x.n, .slice x.A x.kids.length x.cap], .slice (some ⟨gc, 0, none⟩) 3 3, .slice (some ⟨gr, 0, none⟩) 3 3], ?_, ?_⟩
              · rw [run_call 14 _ _ rfl (by kernel_rfl)]
                have e_0 : a.eval (.tmp 103) = .agg #[.int .i64 x.kind, .string ⟨x.s.toArray⟩, .int .i64 x.n, .slice x.A x.kids.length x.cap] := (c.new 0 103 (by kernel_rfl) (by kernel_rfl))
                have e_1 : a.eval (.tmp 104) = .slice (some ⟨gc, 0, none⟩) 3 3 := (c.new 1 104 (by kernel_rfl) (by kernel_rfl))
                have e_2 : a.eval (.tmp 108) = .slice (some ⟨gr, 0, none⟩) 3 3 := (c.new 5 108 (by kernel_rfl) (by kernel_rfl))
                simp [e_0, e_1, e_2]
              · refine (HE1.out wq c.ev).mono ?_
                rintro e wp ⟨rfl, hE⟩
                exact ⟨_, rfl, hE, rfl⟩
            · refine op_value fun a w c => ⟨(wanted_plain rfl), _, run_move _ rfl w, (c.new 6 109 (by kernel_rfl) (by kernel_rfl))⟩
            · refine op_value fun a w c => ⟨(wanted_plain rfl), .agg #[.int .i64 vk, .int .i64 vn, .string vs_], ?_, rfl⟩
              have e102 : a.eval (.tmp 102) = .tuple #[.agg #[.int .i64 vk, .int .i64 vn, .string vs_], .int .i64 vy] := (c.new 7 102 (by kernel_rfl) (by kernel_rfl))
              generalize a.eval = ρ at e102 ⊢
              simp [execOp, e102, go_sem]
            · refine op_value fun a w c => ⟨(wanted_plain rfl), .int .i64 vy, ?_, rfl⟩
              have e102 : a.eval (.tmp 102) = .tuple #[.agg #[.int .i64 vk, .int .i64 vn, .string vs_], .int .i64 vy] := (c.new 7 102 (by kernel_rfl) (by kernel_rfl))
              generalize a.eval = ρ at e102 ⊢
              simp [execOp, e102, go_sem]
            · refine op_makes fun a wq c => ⟨(wanted_plain rfl), _, _, run_alloc_val rfl, Ev.alloc _ _, NewV.new _ _ c.ev.size⟩
            · refine op_value fun a w c => ⟨(wanted_plain rfl), _, run_assign _ rfl w, (c.new 9 111 (by kernel_rfl) (by kernel_rfl))⟩
          · refine ⟨rfl, fun a wq c => ?_⟩
            obtain ⟨g_, d0_, d1_, d2_, eg_, hB_, hb_⟩ := (c.got 10 19 (by kernel_rfl) (by kernel_rfl) rfl : NewV _ _ _)
            have ev_0 : a.eval (.tmp 110) = .agg #[.int .i64 vk, .int .i64 vn, .string vs_] := (c.new 8 110 (by kernel_rfl) (by kernel_rfl))
            obtain ⟨⟨z0_, z1_, z2_⟩, y0_, y1_, y2_⟩ := hB_.three
            refine ⟨wanted_plain rfl, set3 g_ (.int .i64 vk) (.int .i64 vn) (.string vs_) wq, ?_, ⟨g_, _, _, _, hb_, ⟨_, _, _, hB_⟩, rfl⟩, c.ev.box (set3_but _ _ _ _ _) hb_, ⟨g_, eg_, hB_.set3 _ _ _, hb_⟩⟩
            generalize a.eval = ρ at eg_ ev_0 ⊢
            simp [execOp, eg_, ev_0, go_sem, z0_, z1_, z2_, y0_, y1_, y2_, set3]
          intro sl wi2 hEr hold hnew hps
          obtain ⟨ga, f19, BA, hb_ga⟩ := hps
          have f0 : sl 0 = u0 := hold 0 (by kernel_rfl)
          have f1 : sl 1 = .slice (some ⟨gc, 0, none⟩) 3 3 := hold 1 (by kernel_rfl)
          have f2 : sl 2 = .slice (some ⟨gw, 0, none⟩) 2 2 := hold 2 (by kernel_rfl)
          have f3 : sl 3 = undef := hold 3 (by kernel_rfl)
          have f4 : sl 4 = .string ⟨s.toArray⟩ := hold 4 (by kernel_rfl)
          have f5 : sl 5 = .pointer (some ⟨w1.heap.size, 0, none⟩) := hold 5 (by kernel_rfl)
          have f6 : sl 6 = .int .i64 Rw := hold 6 (by kernel_rfl)
          have f7 : sl 7 = .int .i64 (Rp : Int) := hold 7 (by kernel_rfl)
          have f8 : sl 8 = .pointer (some ⟨gy, 0, none⟩) := hold 8 (by kernel_rfl)
          have f9 : sl 9 = .int .i64 RE := hold 9 (by kernel_rfl)
          have f10 : sl 10 = .int .i64 (RP : Int) := hold 10 (by kernel_rfl)
          have f11 : sl 11 = .pointer (some ⟨gx, 0, none⟩) := hold 11 (by kernel_rfl)
          have f12 : sl 12 = .int .i64 RE := hold 12 (by kernel_rfl)
          have f13 : sl 13 = .int .i64 (RP : Int) := hold 13 (by kernel_rfl)
          have f14 : sl 14 = .int .i64 tk := hold 14 (by kernel_rfl)
          have f15 : sl 15 = .int .i64 ty := hold 15 (by kernel_rfl)
          have f16 : sl 16 = .int .i64 tk := hold 16 (by kernel_rfl)
          have f17 : sl 17 = .int .i64 ty := hold 17 (by kernel_rfl)
          have f18 : sl 18 = .int .i64 (i : Int) := hold 18 (by kernel_rfl)
          have f21 : sl 21 = u21 := hold 21 (by kernel_rfl)
          have f22 : sl 22 = u22 := hold 22 (by kernel_rfl)
          have f23 : sl 23 = undef := hold 23 (by kernel_rfl)
          have f24 : sl 24 = undef := hold 24 (by kernel_rfl)
          have f25 : sl 25 = undef := hold 25 (by kernel_rfl)
          have f26 : sl 26 = undef := hold 26 (by kernel_rfl)
          have f27 : sl 27 = .slice (some ⟨gc, 0, none⟩) 3 3 := hold 27 (by kernel_rfl)
          have f28 : sl 28 = vv 1 3 ⟨#[]⟩ := hold 28 (by kernel_rfl)
          have f29 : sl 29 = vv 1 (-9223372036854775808) ⟨#[]⟩ := hold 29 (by kernel_rfl)
          have f30 : sl 30 = vv 2 0 ⟨#[104, 101, 121]⟩ := hold 30 (by kernel_rfl)
          have f31 : sl 31 = .slice (some ⟨g0, 0, none⟩) 3 3 := hold 31 (by kernel_rfl)
          have f32 : sl 32 = vv 1 0 ⟨#[]⟩ := hold 32 (by kernel_rfl)
          have f33 : sl 33 = vv 1 9223372036854775807 ⟨#[]⟩ := hold 33 (by kernel_rfl)
          have f34 : sl 34 = vv 2 0 ⟨#[]⟩ := hold 34 (by kernel_rfl)
          have f35 : sl 35 = .slice (some ⟨g1, 0, none⟩) 3 3 := hold 35 (by kernel_rfl)
          have f36 : sl 36 = .slice (some ⟨gw, 0, none⟩) 2 2 := hold 36 (by kernel_rfl)
          have f37 : sl 37 = .slice (some ⟨gt, 0, none⟩) 51 51 := hold 37 (by kernel_rfl)
          have f38 : sl 38 = .int .i64 51 := hold 38 (by kernel_rfl)
          have f39 : sl 39 = .int .i64 (q : Int) := hold 39 (by kernel_rfl)
          have f40 : sl 40 = .bool true := hold 40 (by kernel_rfl)
          have f41 : sl 41 = .pointer (some ⟨gt, q, none⟩) := hold 41 (by kernel_rfl)
          have f42 : sl 42 = .string ⟨s.toArray⟩ := hold 42 (by kernel_rfl)
          have f43 : sl 43 = .tuple #[.agg #[.int .i64 m.kind, .string ⟨m.s.toArray⟩, .int .i64 m.n, .slice m.A m.kids.length m.cap, .int .i64 (m.pos : Int)], .int .i64 Rw, .int .i64 (Rp : Int)] := hold 43 (by kernel_rfl)
          have f44 : sl 44 = .string ⟨s.toArray⟩ := hold 44 (by kernel_rfl)
          have f45 : sl 45 = .tuple #[.agg #[.int .i64 m.kind, .string ⟨m.s.toArray⟩, .int .i64 m.n, .slice m.A m.kids.length m.cap, .int .i64 (m.pos : Int)], .int .i64 Rw, .int .i64 (Rp : Int)] := hold 45 (by kernel_rfl)
          have f46 : sl 46 = .agg #[.int .i64 m.kind, .string ⟨m.s.toArray⟩, .int .i64 m.n, .slice m.A m.kids.length m.cap, .int .i64 (m.pos : Int)] := hold 46 (by kernel_rfl)
          have f47 : sl 47 = .int .i64 Rw := hold 47 (by kernel_rfl)
          have f48 : sl 48 = .int .i64 (Rp : Int) := hold 48 (by kernel_rfl)
          have f49 : sl 49 = .tuple #[.agg #[.int .i64 x1.kind, .string ⟨x1.s.toArray⟩, .int .i64 x1.n, .slice x1.A x1.kids.length x1.cap], .int .i64 RE, .int .i64 (RP : Int)] := hold 49 (by kernel_rfl)
          have f50 : sl 50 = .agg #[.int .i64 m.kind, .string ⟨m.s.toArray⟩, .int .i64 m.n, .slice m.A m.kids.length m.cap, .int .i64 (m.pos : Int)] := hold 50 (by kernel_rfl)
          have f51 : sl 51 = .agg #[.int .i64 m2.kind, .string ⟨m2.s.toArray⟩, .int .i64 m2.n, .slice m2.A m2.kids.length m2.cap, .int .i64 (m2.pos : Int)] := hold 51 (by kernel_rfl)
          have f52 : sl 52 = .tuple #[.agg #[.int .i64 x1.kind, .string ⟨x1.s.toArray⟩, .int .i64 x1.n, .slice x1.A x1.kids.length x1.cap], .int .i64 RE, .int .i64 (RP : Int)] := hold 52 (by kernel_rfl)
          have f53 : sl 53 = .agg #[.int .i64 x1.kind, .string ⟨x1.s.toArray⟩, .int .i64 x1.n, .slice x1.A x1.kids.length x1.cap] := hold 53 (by kernel_rfl)
          have f54 : sl 54 = .int .i64 RE := hold 54 (by kernel_rfl)
          have f55 : sl 55 = .int .i64 (RP : Int) := hold 55 (by kernel_rfl)
          have f56 : sl 56 = .tuple #[.agg #[.int .i64 x.kind, .string ⟨x.s.toArray⟩, .int .i64 x.n, .slice x.A x.kids.length x.cap], .int .i64 RE, .int .i64 (RP : Int)] := hold 56 (by kernel_rfl)
          have f57 : sl 57 = .agg #[.int .i64 m.kind, .string ⟨m.s.toArray⟩, .int .i64 m.n, .slice m.A m.kids.length m.cap, .int .i64 (m.pos : Int)] := hold 57 (by kernel_rfl)
          have f58 : sl 58 = .tuple #[.agg #[.int .i64 x.kind, .string ⟨x.s.toArray⟩, .int .i64 x.n, .slice x.A x.kids.length x.cap], .int .i64 RE, .int .i64 (RP : Int)] := hold 58 (by kernel_rfl)
          have f59 : sl 59 = .agg #[.int .i64 x.kind, .string ⟨x.s.toArray⟩, .int .i64 x.n, .slice x.A x.kids.length x.cap] := hold 59 (by kernel_rfl)
          have f60 : sl 60 = .int .i64 RE := hold 60 (by kernel_rfl)
          have f61 : sl 61 = .int .i64 (RP : Int) := hold 61 (by kernel_rfl)
          have f62 : sl 62 = .agg #[.int .i64 x1.kind, .string ⟨x1.s.toArray⟩, .int .i64 x1.n, .slice x1.A x1.kids.length x1.cap] := hold 62 (by kernel_rfl)
          have f63 : sl 63 = .slice (some ⟨u4.heap.size, 0, none⟩) 1 1 := hold 63 (by kernel_rfl)
          have f64 : sl 64 = .agg #[.int .i64 x.kind, .string ⟨x.s.toArray⟩, .int .i64 x.n, .slice x.A x.kids.length x.cap] := hold 64 (by kernel_rfl)
          have f65 : sl 65 = .slice (some ⟨u4.heap.size + 1, 0, none⟩) 1 1 := hold 65 (by kernel_rfl)
          have f66 : sl 66 = .bool true := hold 66 (by kernel_rfl)
          have f67 : sl 67 = .bool false := hold 67 (by kernel_rfl)
          have f68 : sl 68 = .bool false := hold 68 (by kernel_rfl)
          have f69 : sl 69 = .int .i64 RE := hold 69 (by kernel_rfl)
          have f70 : sl 70 = .int .i64 RE := hold 70 (by kernel_rfl)
          have f71 : sl 71 = .bool false := hold 71 (by kernel_rfl)
          have f72 : sl 72 = .bool false := hold 72 (by kernel_rfl)
          have f73 : sl 73 = .bool false := hold 73 (by kernel_rfl)
          have f74 : sl 74 = .int .i64 (RP : Int) := hold 74 (by kernel_rfl)
          have f75 : sl 75 = .int .i64 (RP : Int) := hold 75 (by kernel_rfl)
          have f76 : sl 76 = .bool false := hold 76 (by kernel_rfl)
          have f77 : sl 77 = .bool false := hold 77 (by kernel_rfl)
          have f78 : sl 78 = .tuple #[.int .i64 tk, .int .i64 ty] := hold 78 (by kernel_rfl)
          have f79 : sl 79 = .agg #[.int .i64 x.kind, .string ⟨x.s.toArray⟩, .int .i64 x.n, .slice x.A x.kids.length x.cap] := hold 79 (by kernel_rfl)
          have f80 : sl 80 = .slice (some ⟨gc, 0, none⟩) 3 3 := hold 80 (by kernel_rfl)
          have f81 : sl 81 = .tuple #[.int .i64 tk, .int .i64 ty] := hold 81 (by kernel_rfl)
          have f82 : sl 82 = .int .i64 tk := hold 82 (by kernel_rfl)
          have f83 : sl 83 = .int .i64 ty := hold 83 (by kernel_rfl)
          have f84 : sl 84 = .tuple #[.int .i64 tk, .int .i64 ty] := hold 84 (by kernel_rfl)
          have f85 : sl 85 = .agg #[.int .i64 x.kind, .string ⟨x.s.toArray⟩, .int .i64 x.n, .slice x.A x.kids.length x.cap] := hold 85 (by kernel_rfl)
          have f86 : sl 86 = .slice (some ⟨gc, 0, none⟩) 3 3 := hold 86 (by kernel_rfl)
          have f87 : sl 87 = .tuple #[.int .i64 tk, .int .i64 ty] := hold 87 (by kernel_rfl)
          have f88 : sl 88 = .int .i64 tk := hold 88 (by kernel_rfl)
          have f89 : sl 89 = .int .i64 ty := hold 89 (by kernel_rfl)
          have f90 : sl 90 = .int .i64 tk := hold 90 (by kernel_rfl)
          have f91 : sl 91 = .int .i64 tk := hold 91 (by kernel_rfl)
          have f92 : sl 92 = .bool false := hold 92 (by kernel_rfl)
          have f93 : sl 93 = .bool false := hold 93 (by kernel_rfl)
          have f94 : sl 94 = .int .i64 ty := hold 94 (by kernel_rfl)
          have f95 : sl 95 = .int .i64 ty := hold 95 (by kernel_rfl)
          have f96 : sl 96 = .bool false := hold 96 (by kernel_rfl)
          have f97 : sl 97 = .bool false := hold 97 (by kernel_rfl)
          have f98 : sl 98 = .int .i64 (i : Int) := hold 98 (by kernel_rfl)
          have f99 : sl 99 = .bool true := hold 99 (by kernel_rfl)
          have f100 : sl 100 = u100 := hold 100 (by kernel_rfl)
          have f101 : sl 101 = u101 := hold 101 (by kernel_rfl)
          have f112 : sl 112 = u112 := hold 112 (by kernel_rfl)
          have f113 : sl 113 = u113 := hold 113 (by kernel_rfl)
          have f114 : sl 114 = u114 := hold 114 (by kernel_rfl)
          have f115 : sl 115 = u115 := hold 115 (by kernel_rfl)
          have f116 : sl 116 = u116 := hold 116 (by kernel_rfl)
          have f117 : sl 117 = u117 := hold 117 (by kernel_rfl)
          have f118 : sl 118 = u118 := hold 118 (by kernel_rfl)
          have f119 : sl 119 = u119 := hold 119 (by kernel_rfl)
          have f120 : sl 120 = u120 := hold 120 (by kernel_rfl)
          have f121 : sl 121 = u121 := hold 121 (by kernel_rfl)
          have f122 : sl 122 = u122 := hold 122 (by kernel_rfl)
          have f123 : sl 123 = u123 := hold 123 (by kernel_rfl)
          have f124 : sl 124 = u124 := hold 124 (by kernel_rfl)
          have f125 : sl 125 = u125 := hold 125 (by kernel_rfl)
          have f126 : sl 126 = u126 := hold 126 (by kernel_rfl)
          have f127 : sl 127 = u127 := hold 127 (by kernel_rfl)
          have f128 : sl 128 = u128 := hold 128 (by kernel_rfl)
          have f129 : sl 129 = u129 := hold 129 (by kernel_rfl)
          have f130 : sl 130 = u130 := hold 130 (by kernel_rfl)
          have f131 : sl 131 = undef := hold 131 (by kernel_rfl)
          have f132 : sl 132 = undef := hold 132 (by kernel_rfl)
          have f133 : sl 133 = undef := hold 133 (by kernel_rfl)
          have f134 : sl 134 = undef := hold 134 (by kernel_rfl)
          have f135 : sl 135 = undef := hold 135 (by kernel_rfl)
          have f136 : sl 136 = undef := hold 136 (by kernel_rfl)
          have f137 : sl 137 = undef := hold 137 (by kernel_rfl)
          have f138 : sl 138 = undef := hold 138 (by kernel_rfl)
          have f139 : sl 139 = undef := hold 139 (by kernel_rfl)
          have f140 : sl 140 = undef := hold 140 (by kernel_rfl)
          have f141 : sl 141 = undef := hold 141 (by kernel_rfl)
          have f142 : sl 142 = undef := hold 142 (by kernel_rfl)
          have f143 : sl 143 = undef := hold 143 (by kernel_rfl)
          have f144 : sl 144 = undef := hold 144 (by kernel_rfl)
          have f145 : sl 145 = undef := hold 145 (by kernel_rfl)
          have f146 : sl 146 = undef := hold 146 (by kernel_rfl)
          have f147 : sl 147 = undef := hold 147 (by kernel_rfl)
          have f148 : sl 148 = undef := hold 148 (by kernel_rfl)
          have f149 : sl 149 = undef := hold 149 (by kernel_rfl)
          have f150 : sl 150 = undef := hold 150 (by kernel_rfl)
          have f151 : sl 151 = undef := hold 151 (by kernel_rfl)
          have f152 : sl 152 = undef := hold 152 (by kernel_rfl)
          have f153 : sl 153 = undef := hold 153 (by kernel_rfl)
          have f154 : sl 154 = undef := hold 154 (by kernel_rfl)
          have f155 : sl 155 = undef := hold 155 (by kernel_rfl)
          have f156 : sl 156 = undef := hold 156 (by kernel_rfl)
          have f157 : sl 157 = undef := hold 157 (by kernel_rfl)
          have f158 : sl 158 = undef := hold 158 (by kernel_rfl)
          have f159 : sl 159 = undef := hold 159 (by kernel_rfl)
          have f20 : sl 20 = .int .i64 vy := hnew 12 20 (by kernel_rfl)
          have f102 : sl 102 = .tuple #[.agg #[.int .i64 vk, .int .i64 vn, .string vs_], .int .i64 vy] := hnew 7 102 (by kernel_rfl)
          have f103 : sl 103 = .agg #[.int .i64 x.kind, .string ⟨x.s.toArray⟩, .int .i64 x.n, .slice x.A x.kids.length x.cap] := hnew 0 103 (by kernel_rfl)
          have f104 : sl 104 = .slice (some ⟨gc, 0, none⟩) 3 3 := hnew 1 104 (by kernel_rfl)
          have f105 : sl 105 = .slice (some ⟨gw, 0, none⟩) 2 2 := hnew 2 105 (by kernel_rfl)
          have f106 : sl 106 = .int .i64 (i : Int) := hnew 3 106 (by kernel_rfl)
          have f107 : sl 107 = .pointer (some ⟨gw, i, none⟩) := hnew 4 107 (by kernel_rfl)
          have f108 : sl 108 = .slice (some ⟨gr, 0, none⟩) 3 3 := hnew 5 108 (by kernel_rfl)
          have f109 : sl 109 = .tuple #[.agg #[.int .i64 vk, .int .i64 vn, .string vs_], .int .i64 vy] := hnew 6 109 (by kernel_rfl)
          have f110 : sl 110 = .agg #[.int .i64 vk, .int .i64 vn, .string vs_] := hnew 8 110 (by kernel_rfl)
          have f111 : sl 111 = .int .i64 vy := hnew 9 111 (by kernel_rfl)
          change Exit.then _ _ .normal ⟨#[sl 0, sl 1, sl 2, sl 3, sl 4, sl 5, sl 6, sl 7, sl 8, sl 9, sl 10, sl 11, sl 12, sl 13, sl 14, sl 15, sl 16, sl 17, sl 18, sl 19, sl 20, sl 21, sl 22, sl 23, sl 24, sl 25, sl 26, sl 27, sl 28, sl 29, sl 30, sl 31, sl 32, sl 33, sl 34, sl 35, sl 36, sl 37, sl 38, sl 39, sl 40, sl 41, sl 42, sl 43, sl 44, sl 45, sl 46, sl 47, sl 48, sl 49, sl 50, sl 51, sl 52, sl 53, sl 54, sl 55, sl 56, sl 57, sl 58, sl 59, sl 60, sl 61, sl 62, sl 63, sl 64, sl 65, sl 66, sl 67, sl 68, sl 69, sl 70, sl 71, sl 72, sl 73, sl 74, sl 75, sl 76, sl 77, sl 78, sl 79, sl 80, sl 81, sl 82, sl 83, sl 84, sl 85, sl 86, sl 87, sl 88, sl 89, sl 90, sl 91, sl 92, sl 93, sl 94, sl 95, sl 96, sl 97, sl 98, sl 99, sl 100, sl 101, sl 102, sl 103, sl 104, sl 105, sl 106, sl 107, sl 108, sl 109, sl 110, sl 111, sl 112, sl 113, sl 114, sl 115, sl 116, sl 117, sl 118, sl 119, sl 120, sl 121, sl 122, sl 123, sl 124, sl 125, sl 126, sl 127, sl 128, sl 129, sl 130, sl 131, sl 132, sl 133, sl 134, sl 135, sl 136, sl 137, sl 138, sl 139, sl 140, sl 141, sl 142, sl 143, sl 144, sl 145, sl 146, sl 147, sl 148, sl 149, sl 150, sl 151, sl 152, sl 153, sl 154, sl 155, sl 156, sl 157, sl 158, sl 159], _⟩ _
          simp only [f19, f0, f1, f2, f3, f4, f5, f6, f7, f8, f9, f10, f11, f12, f13, f14, f15, f16, f17, f18, f21, f22, f23, f24, f25, f26, f27, f28, f29, f30, f31, f32, f33, f34, f35, f36, f37, f38, f39, f40, f41, f42, f43, f44, f45, f46, f47, f48, f49, f50, f51, f52, f53, f54, f55, f56, f57, f58, f59, f60, f61, f62, f63, f64, f65, f66, f67, f68, f69, f70, f71, f72, f73, f74, f75, f76, f77, f78, f79, f80, f81, f82, f83, f84, f85, f86, f87, f88, f89, f90, f91, f92, f93, f94, f95, f96, f97, f98, f99, f100, f101, f112, f113, f114, f115, f116, f117, f118, f119, f120, f121, f122, f123, f124, f125, f126, f127, f128, f129, f130, f131, f132, f133, f134, f135, f136, f137, f138, f139, f140, f141, f142, f143, f144, f145, f146, f147, f148, f149, f150, f151, f152, f153, f154, f155, f156, f157, f158, f159, f20, f102, f103, f104, f105, f106, f107, f108, f109, f110, f111]
          clear hold hnew
          have E18 := Lib.hid hEr
          have HE2 := Lib.hid (fun w1 (hE : Ev wi2 w1) => HE2a.out w1 (E18.out.trans hE))
          have hcr2 := (E18.out.cell (p := ⟨gw, i, none⟩) HGW.out).trans HCR.out
          have hgw2 := Nat.lt_of_lt_of_le HGW.out E18.out.size
          clear HGW HCR hEr
          have HGW := Lib.hid hgw2
          have HCR := Lib.hid hcr2
          clear hgw2 hcr2
          go_upto_region 19 with fail
          refine wp_region_slotsN hmix (JV wi2.heap.size) 11 21 10 (BxV wi2.heap.size vk vn vs_) [fun v _ => v = .agg #[.int .i64 x.kind, .string ⟨x.s.toArray⟩, .int .i64 x.n, .slice x.A x.kids.length x.cap], fun v _ => v = .slice (some ⟨gc, 0, none⟩) 3 3, fun v _ => v = .slice (some ⟨gw, 0, none⟩) 2 2, fun v _ => v = .int .i64 (i : Int), fun v _ => v = .pointer (some ⟨gw, i, none⟩), fun v _ => v = .slice (some ⟨gr, 0, none⟩) 3 3, fun v _ => v = .tuple #[.agg #[.int .i64 vk, .int .i64 vn, .string vs_], .int .i64 vy], fun v _ => v = .tuple #[.agg #[.int .i64 vk, .int .i64 vn, .string vs_], .int .i64 vy], fun v _ => v = .agg #[.int .i64 vk, .int .i64 vn, .string vs_], fun v _ => v = .int .i64 vy, NewV wi2.heap.size, fun _ _ => True, fun v _ => v = .int .i64 vy]
            160 rfl (by kernel_rfl) ⟨mono_eq _, mono_eq _, mono_eq _, mono_eq _, mono_eq _, mono_eq _, mono_eq _, mono_eq _, mono_eq _, mono_eq _, NewV.mono _, mono_true, mono_eq _, trivial⟩ ⟨.inr (.inr fun _ _ _ _ h => h), .inr (.inr fun _ _ _ _ h => h), .inr (.inr fun _ _ _ _ h => h), .inr (.inr fun _ _ _ _ h => h), .inr (.inr fun _ _ _ _ h => h), .inr (.inr fun _ _ _ _ h => h), .inr (.inr fun _ _ _ _ h => h), .inr (.inr fun _ _ _ _ h => h), .inr (.inr fun _ _ _ _ h => h), .inr (.inr fun _ _ _ _ h => h), .inr (.inr (NewV.jump _ _)), .inl rfl, .inr (.inr fun _ _ _ _ h => h), trivial⟩ (BxV.mono _ _ _ _) _ rfl (by kernel_rfl) (by kernel_rfl) ?_ ?_ ?_
          · refine opn_cons 0 ?_ (opn_cons 1 ?_ (opn_cons 2 ?_ (opn_cons 3 ?_ (opn_cons 4 ?_ (opn_cons 5 ?_ (opn_cons 6 ?_ (opn_cons 7 ?_ (opn_cons 8 ?_ (opn_cons 9 ?_ (opn_cons 10 ?_ (opn_store 11 (opn_cons 12 ?_ (opn_nil 13)))))))))))))
            · refine op_value fun a wq c => ⟨(wanted_plain rfl), _, run_load_box2 rfl ((c.was 11 (by kernel_rfl) rfl) : a.eval (.tmp 11) = .pointer (some ⟨gx, 0, none⟩)) ((HXi.out.bx.ev E18.out).ev c.ev) Try.underlying39 rfl Try.sizeExpr, rfl⟩
            · refine op_value fun a w c => ⟨(wanted_plain rfl), _, run_move _ rfl w, (c.was 1 (by kernel_rfl) rfl)⟩
            · refine op_value fun a w c => ⟨(wanted_plain rfl), _, run_move _ rfl w, (c.was 2 (by kernel_rfl) rfl)⟩
            · refine op_value fun a w c => ⟨(wanted_plain rfl), _, run_move _ rfl w, (c.was 18 (by kernel_rfl) rfl)⟩
            · refine op_value fun a wq c => ⟨(wanted_plain rfl), .pointer (some ⟨gw, i, none⟩), ?_, rfl⟩
              have e_0 : a.eval (.tmp 115) = .slice (some ⟨gw, 0, none⟩) 2 2 := (c.new 2 115 (by kernel_rfl) (by kernel_rfl))
              have e_1 : a.eval (.tmp 116) = .int .i64 (i : Int) := (c.new 3 116 (by kernel_rfl) (by kernel_rfl))
              generalize a.eval = ρ at e_0 e_1 ⊢
              simp [execOp, e_0, e_1, go_sem, i5, i6]
            · refine op_value fun a wq c => ⟨(wanted_plain rfl), .slice (some ⟨gr, 0, none⟩) 3 3, ?_, rfl⟩
              have e_0 : a.eval (.tmp 117) = .pointer (some ⟨gw, i, none⟩) := (c.new 4 117 (by kernel_rfl) (by kernel_rfl))
              have hc := (c.ev.cell (p := ⟨gw, i, none⟩) HGW.out).trans HCR.out
              generalize a.eval = ρ at e_0 ⊢
              simp [execOp, e_0, hc, go_sem]
            · refine op_call fun a wq c => ?_
              refine ⟨(wanted_plain rfl), 15, #[.agg #[.int .i64 x.kind, .string ⟨x.s.toArray⟩, .int .i64 x.n, .slice x.A x.kids.length x.cap], .slice (some ⟨gc, 0, none⟩) 3 3, .slice (some ⟨gr, 0, none⟩) 3 3], ?_, ?_⟩
              · rw [run_call 15 _ _ rfl (by kernel_rfl)]
                have e_0 : a.eval (.tmp 113) = .agg #[.int .i64 x.kind, .string ⟨x.s.toArray⟩, .int .i64 x.n, .slice x.A x.kids.length x.cap] := (c.new 0 113 (by kernel_rfl) (by kernel_rfl))
                have e_1 : a.eval (.tmp 114) = .slice (some ⟨gc, 0, none⟩) 3 3 := (c.new 1 114 (by kernel_rfl) (by kernel_rfl))
                have e_2 : a.eval (.tmp 118) = .slice (some ⟨gr, 0, none⟩) 3 3 := (c.new 5 118 (by kernel_rfl) (by kernel_rfl))
                simp [e_0, e_1, e_2]
              · refine (HE2.out wq c.ev).mono ?_
                rintro e wp ⟨rfl, hE⟩
                exact ⟨_, rfl, hE, rfl⟩
            · refine op_value fun a w c => ⟨(wanted_plain rfl), _, run_move _ rfl w, (c.new 6 119 (by kernel_rfl) (by kernel_rfl))⟩
            · refine op_value fun a w c => ⟨(wanted_plain rfl), .agg #[.int .i64 vk, .int .i64 vn, .string vs_], ?_, rfl⟩
              have e112 : a.eval (.tmp 112) = .tuple #[.agg #[.int .i64 vk, .int .i64 vn, .string vs_], .int .i64 vy] := (c.new 7 112 (by kernel_rfl) (by kernel_rfl))
              generalize a.eval = ρ at e112 ⊢
              simp [execOp, e112, go_sem]
            · refine op_value fun a w c => ⟨(wanted_plain rfl), .int .i64 vy, ?_, rfl⟩
              have e112 : a.eval (.tmp 112) = .tuple #[.agg #[.int .i64 vk, .int .i64 vn, .string vs_], .int .i64 vy] := (c.new 7 112 (by kernel_rfl) (by kernel_rfl))
              generalize a.eval = ρ at e112 ⊢
              simp [execOp, e112, go_sem]
            · refine op_makes fun a wq c => ⟨(wanted_plain rfl), _, _, run_alloc_val rfl, Ev.alloc _ _, NewV.new _ _ c.ev.size⟩
            · refine op_value fun a w c => ⟨(wanted_plain rfl), _, run_assign _ rfl w, (c.new 9 121 (by kernel_rfl) (by kernel_rfl))⟩
          · refine ⟨rfl, fun a wq c => ?_⟩
            obtain ⟨g_, d0_, d1_, d2_, eg_, hB_, hb_⟩ := (c.got 10 21 (by kernel_rfl) (by kernel_rfl) rfl : NewV _ _ _)
            have ev_0 : a.eval (.tmp 120) = .agg #[.int .i64 vk, .int .i64 vn, .string vs_] := (c.new 8 120 (by kernel_rfl) (by kernel_rfl))
            obtain ⟨⟨z0_, z1_, z2_⟩, y0_, y1_, y2_⟩ := hB_.three
            refine ⟨wanted_plain rfl, set3 g_ (.int .i64 vk) (.int .i64 vn) (.string vs_) wq, ?_, ⟨g_, _, _, _, hb_, ⟨_, _, _, hB_⟩, rfl⟩, c.ev.box (set3_but _ _ _ _ _) hb_, ⟨g_, eg_, hB_.set3 _ _ _, hb_⟩⟩
            generalize a.eval = ρ at eg_ ev_0 ⊢
            simp [execOp, eg_, ev_0, go_sem, z0_, z1_, z2_, y0_, y1_, y2_, set3]
          intro sm wi3 hEr hold hnew hps
          obtain ⟨gb, f21, BB, hb_gb⟩ := hps
          have f0 : sm 0 = u0 := hold 0 (by kernel_rfl)
          have f1 : sm 1 = .slice (some ⟨gc, 0, none⟩) 3 3 := hold 1 (by kernel_rfl)
          have f2 : sm 2 = .slice (some ⟨gw, 0, none⟩) 2 2 := hold 2 (by kernel_rfl)
          have f3 : sm 3 = undef := hold 3 (by kernel_rfl)
          have f4 : sm 4 = .string ⟨s.toArray⟩ := hold 4 (by kernel_rfl)
          have f5 : sm 5 = .pointer (some ⟨w1.heap.size, 0, none⟩) := hold 5 (by kernel_rfl)
          have f6 : sm 6 = .int .i64 Rw := hold 6 (by kernel_rfl)
          have f7 : sm 7 = .int .i64 (Rp : Int) := hold 7 (by kernel_rfl)
          have f8 : sm 8 = .pointer (some ⟨gy, 0, none⟩) := hold 8 (by kernel_rfl)
          have f9 : sm 9 = .int .i64 RE := hold 9 (by kernel_rfl)
          have f10 : sm 10 = .int .i64 (RP : Int) := hold 10 (by kernel_rfl)
          have f11 : sm 11 = .pointer (some ⟨gx, 0, none⟩) := hold 11 (by kernel_rfl)
          have f12 : sm 12 = .int .i64 RE := hold 12 (by kernel_rfl)
          have f13 : sm 13 = .int .i64 (RP : Int) := hold 13 (by kernel_rfl)
          have f14 : sm 14 = .int .i64 tk := hold 14 (by kernel_rfl)
          have f15 : sm 15 = .int .i64 ty := hold 15 (by kernel_rfl)
          have f16 : sm 16 = .int .i64 tk := hold 16 (by kernel_rfl)
          have f17 : sm 17 = .int .i64 ty := hold 17 (by kernel_rfl)
          have f18 : sm 18 = .int .i64 (i : Int) := hold 18 (by kernel_rfl)
          have f19 : sm 19 = .pointer (some ⟨ga, 0, none⟩) := hold 19 (by kernel_rfl)
          have f20 : sm 20 = .int .i64 vy := hold 20 (by kernel_rfl)
          have f23 : sm 23 = undef := hold 23 (by kernel_rfl)
          have f24 : sm 24 = undef := hold 24 (by kernel_rfl)
          have f25 : sm 25 = undef := hold 25 (by kernel_rfl)
          have f26 : sm 26 = undef := hold 26 (by kernel_rfl)
          have f27 : sm 27 = .slice (some ⟨gc, 0, none⟩) 3 3 := hold 27 (by kernel_rfl)
          have f28 : sm 28 = vv 1 3 ⟨#[]⟩ := hold 28 (by kernel_rfl)
          have f29 : sm 29 = vv 1 (-9223372036854775808) ⟨#[]⟩ := hold 29 (by kernel_rfl)
          have f30 : sm 30 = vv 2 0 ⟨#[104, 101, 121]⟩ := hold 30 (by kernel_rfl)
          have f31 : sm 31 = .slice (some ⟨g0, 0, none⟩) 3 3 := hold 31 (by kernel_rfl)
          have f32 : sm 32 = vv 1 0 ⟨#[]⟩ := hold 32 (by kernel_rfl)
          have f33 : sm 33 = vv 1 9223372036854775807 ⟨#[]⟩ := hold 33 (by kernel_rfl)
          have f34 : sm 34 = vv 2 0 ⟨#[]⟩ := hold 34 (by kernel_rfl)
          have f35 : sm 35 = .slice (some ⟨g1, 0, none⟩) 3 3 := hold 35 (by kernel_rfl)
          have f36 : sm 36 = .slice (some ⟨gw, 0, none⟩) 2 2 := hold 36 (by kernel_rfl)
          have f37 : sm 37 = .slice (some ⟨gt, 0, none⟩) 51 51 := hold 37 (by kernel_rfl)
          have f38 : sm 38 = .int .i64 51 := hold 38 (by kernel_rfl)
          have f39 : sm 39 = .int .i64 (q : Int) := hold 39 (by kernel_rfl)
          have f40 : sm 40 = .bool true := hold 40 (by kernel_rfl)
          have f41 : sm 41 = .pointer (some ⟨gt, q, none⟩) := hold 41 (by kernel_rfl)
          have f42 : sm 42 = .string ⟨s.toArray⟩ := hold 42 (by kernel_rfl)
          have f43 : sm 43 = .tuple #[.agg #[.int .i64 m.kind, .string ⟨m.s.toArray⟩, .int .i64 m.n, .slice m.A m.kids.length m.cap, .int .i64 (m.pos : Int)], .int .i64 Rw, .int .i64 (Rp : Int)] := hold 43 (by kernel_rfl)
          have f44 : sm 44 = .string ⟨s.toArray⟩ := hold 44 (by kernel_rfl)
          have f45 : sm 45 = .tuple #[.agg #[.int .i64 m.kind, .string ⟨m.s.toArray⟩, .int .i64 m.n, .slice m.A m.kids.length m.cap, .int .i64 (m.pos : Int)], .int .i64 Rw, .int .i64 (Rp : Int)] := hold 45 (by kernel_rfl)
          have f46 : sm 46 = .agg #[.int .i64 m.kind, .string ⟨m.s.toArray⟩, .int .i64 m.n, .slice m.A m.kids.length m.cap, .int .i64 (m.pos : Int)] := hold 46 (by kernel_rfl)
          have f47 : sm 47 = .int .i64 Rw := hold 47 (by kernel_rfl)
          have f48 : sm 48 = .int .i64 (Rp : Int) := hold 48 (by kernel_rfl)
          have f49 : sm 49 = .tuple #[.agg #[.int .i64 x1.kind, .string ⟨x1.s.toArray⟩, .int .i64 x1.n, .slice x1.A x1.kids.length x1.cap], .int .i64 RE, .int .i64 (RP : Int)] := hold 49 (by kernel_rfl)
          have f50 : sm 50 = .agg #[.int .i64 m.kind, .string ⟨m.s.toArray⟩, .int .i64 m.n, .slice m.A m.kids.length m.cap, .int .i64 (m.pos : Int)] := hold 50 (by kernel_rfl)
          have f51 : sm 51 = .agg #[.int .i64 m2.kind, .string ⟨m2.s.toArray⟩, .int .i64 m2.n, .slice m2.A m2.kids.length m2.cap, .int .i64 (m2.pos : Int)] := hold 51 (by kernel_rfl)
          have f52 : sm 52 = .tuple #[.agg #[.int .i64 x1.kind, .string ⟨x1.s.toArray⟩, .int .i64 x1.n, .slice x1.A x1.kids.length x1.cap], .int .i64 RE, .int .i64 (RP : Int)] := hold 52 (by kernel_rfl)
          have f53 : sm 53 = .agg #[.int .i64 x1.kind, .string ⟨x1.s.toArray⟩, .int .i64 x1.n, .slice x1.A x1.kids.length x1.cap] := hold 53 (by kernel_rfl)
          have f54 : sm 54 = .int .i64 RE := hold 54 (by kernel_rfl)
          have f55 : sm 55 = .int .i64 (RP : Int) := hold 55 (by kernel_rfl)
          have f56 : sm 56 = .tuple #[.agg #[.int .i64 x.kind, .string ⟨x.s.toArray⟩, .int .i64 x.n, .slice x.A x.kids.length x.cap], .int .i64 RE, .int .i64 (RP : Int)] := hold 56 (by kernel_rfl)
          have f57 : sm 57 = .agg #[.int .i64 m.kind, .string ⟨m.s.toArray⟩, .int .i64 m.n, .slice m.A m.kids.length m.cap, .int .i64 (m.pos : Int)] := hold 57 (by kernel_rfl)
          have f58 : sm 58 = .tuple #[.agg #[.int .i64 x.kind, .string ⟨x.s.toArray⟩, .int .i64 x.n, .slice x.A x.kids.length x.cap], .int .i64 RE, .int .i64 (RP : Int)] := hold 58 (by kernel_rfl)
          have f59 : sm 59 = .agg #[.int .i64 x.kind, .string ⟨x.s.toArray⟩, .int .i64 x.n, .slice x.A x.kids.length x.cap] := hold 59 (by kernel_rfl)
          have f60 : sm 60 = .int .i64 RE := hold 60 (by kernel_rfl)
          have f61 : sm 61 = .int .i64 (RP : Int) := hold 61 (by kernel_rfl)
          have f62 : sm 62 = .agg #[.int .i64 x1.kind, .string ⟨x1.s.toArray⟩, .int .i64 x1.n, .slice x1.A x1.kids.length x1.cap] := hold 62 (by kernel_rfl)
          have f63 : sm 63 = .slice (some ⟨u4.heap.size, 0, none⟩) 1 1 := hold 63 (by kernel_rfl)
          have f64 : sm 64 = .agg #[.int .i64 x.kind, .string ⟨x.s.toArray⟩, .int .i64 x.n, .slice x.A x.kids.length x.cap] := hold 64 (by kernel_rfl)
          have f65 : sm 65 = .slice (some ⟨u4.heap.size + 1, 0, none⟩) 1 1 := hold 65 (by kernel_rfl)
          have f66 : sm 66 = .bool true := hold 66 (by kernel_rfl)
          have f67 : sm 67 = .bool false := hold 67 (by kernel_rfl)
          have f68 : sm 68 = .bool false := hold 68 (by kernel_rfl)
          have f69 : sm 69 = .int .i64 RE := hold 69 (by kernel_rfl)
          have f70 : sm 70 = .int .i64 RE := hold 70 (by kernel_rfl)
          have f71 : sm 71 = .bool false := hold 71 (by kernel_rfl)
          have f72 : sm 72 = .bool false := hold 72 (by kernel_rfl)
          have f73 : sm 73 = .bool false := hold 73 (by kernel_rfl)
          have f74 : sm 74 = .int .i64 (RP : Int) := hold 74 (by kernel_rfl)
          have f75 : sm 75 = .int .i64 (RP : Int) := hold 75 (by kernel_rfl)
          have f76 : sm 76 = .bool false := hold 76 (by kernel_rfl)
          have f77 : sm 77 = .bool false := hold 77 (by kernel_rfl)
          have f78 : sm 78 = .tuple #[.int .i64 tk, .int .i64 ty] := hold 78 (by kernel_rfl)
          have f79 : sm 79 = .agg #[.int .i64 x.kind, .string ⟨x.s.toArray⟩, .int .i64 x.n, .slice x.A x.kids.length x.cap] := hold 79 (by kernel_rfl)
          have f80 : sm 80 = .slice (some ⟨gc, 0, none⟩) 3 3 := hold 80 (by kernel_rfl)
          have f81 : sm 81 = .tuple #[.int .i64 tk, .int .i64 ty] := hold 81 (by kernel_rfl)
          have f82 : sm 82 = .int .i64 tk := hold 82 (by kernel_rfl)
          have f83 : sm 83 = .int .i64 ty := hold 83 (by kernel_rfl)
          have f84 : sm 84 = .tuple #[.int .i64 tk, .int .i64 ty] := hold 84 (by kernel_rfl)
          have f85 : sm 85 = .agg #[.int .i64 x.kind, .string ⟨x.s.toArray⟩, .int .i64 x.n, .slice x.A x.kids.length x.cap] := hold 85 (by kernel_rfl)
          have f86 : sm 86 = .slice (some ⟨gc, 0, none⟩) 3 3 := hold 86 (by kernel_rfl)
          have f87 : sm 87 = .tuple #[.int .i64 tk, .int .i64 ty] := hold 87 (by kernel_rfl)
          have f88 : sm 88 = .int .i64 tk := hold 88 (by kernel_rfl)
          have f89 : sm 89 = .int .i64 ty := hold 89 (by kernel_rfl)
          have f90 : sm 90 = .int .i64 tk := hold 90 (by kernel_rfl)
          have f91 : sm 91 = .int .i64 tk := hold 91 (by kernel_rfl)
          have f92 : sm 92 = .bool false := hold 92 (by kernel_rfl)
          have f93 : sm 93 = .bool false := hold 93 (by kernel_rfl)
          have f94 : sm 94 = .int .i64 ty := hold 94 (by kernel_rfl)
          have f95 : sm 95 = .int .i64 ty := hold 95 (by kernel_rfl)
          have f96 : sm 96 = .bool false := hold 96 (by kernel_rfl)
          have f97 : sm 97 = .bool false := hold 97 (by kernel_rfl)
          have f98 : sm 98 = .int .i64 (i : Int) := hold 98 (by kernel_rfl)
          have f99 : sm 99 = .bool true := hold 99 (by kernel_rfl)
          have f100 : sm 100 = u100 := hold 100 (by kernel_rfl)
          have f101 : sm 101 = u101 := hold 101 (by kernel_rfl)
          have f102 : sm 102 = .tuple #[.agg #[.int .i64 vk, .int .i64 vn, .string vs_], .int .i64 vy] := hold 102 (by kernel_rfl)
          have f103 : sm 103 = .agg #[.int .i64 x.kind, .string ⟨x.s.toArray⟩, .int .i64 x.n, .slice x.A x.kids.length x.cap] := hold 103 (by kernel_rfl)
          have f104 : sm 104 = .slice (some ⟨gc, 0, none⟩) 3 3 := hold 104 (by kernel_rfl)
          have f105 : sm 105 = .slice (some ⟨gw, 0, none⟩) 2 2 := hold 105 (by kernel_rfl)
          have f106 : sm 106 = .int .i64 (i : Int) := hold 106 (by kernel_rfl)
          have f107 : sm 107 = .pointer (some ⟨gw, i, none⟩) := hold 107 (by kernel_rfl)
          have f108 : sm 108 = .slice (some ⟨gr, 0, none⟩) 3 3 := hold 108 (by kernel_rfl)
          have f109 : sm 109 = .tuple #[.agg #[.int .i64 vk, .int .i64 vn, .string vs_], .int .i64 vy] := hold 109 (by kernel_rfl)
          have f110 : sm 110 = .agg #[.int .i64 vk, .int .i64 vn, .string vs_] := hold 110 (by kernel_rfl)
          have f111 : sm 111 = .int .i64 vy := hold 111 (by kernel_rfl)
          have f122 : sm 122 = u122 := hold 122 (by kernel_rfl)
          have f123 : sm 123 = u123 := hold 123 (by kernel_rfl)
          have f124 : sm 124 = u124 := hold 124 (by kernel_rfl)
          have f125 : sm 125 = u125 := hold 125 (by kernel_rfl)
          have f126 : sm 126 = u126 := hold 126 (by kernel_rfl)
          have f127 : sm 127 = u127 := hold 127 (by kernel_rfl)
          have f128 : sm 128 = u128 := hold 128 (by kernel_rfl)
          have f129 : sm 129 = u129 := hold 129 (by kernel_rfl)
          have f130 : sm 130 = u130 := hold 130 (by kernel_rfl)
          have f131 : sm 131 = undef := hold 131 (by kernel_rfl)
          have f132 : sm 132 = undef := hold 132 (by kernel_rfl)
          have f133 : sm 133 = undef := hold 133 (by kernel_rfl)
          have f134 : sm 134 = undef := hold 134 (by kernel_rfl)
          have f135 : sm 135 = undef := hold 135 (by kernel_rfl)
          have f136 : sm 136 = undef := hold 136 (by kernel_rfl)
          have f137 : sm 137 = undef := hold 137 (by kernel_rfl)
          have f138 : sm 138 = undef := hold 138 (by kernel_rfl)
          have f139 : sm 139 = undef := hold 139 (by kernel_rfl)
          have f140 : sm 140 = undef := hold 140 (by kernel_rfl)
          have f141 : sm 141 = undef := hold 141 (by kernel_rfl)
          have f142 : sm 142 = undef := hold 142 (by kernel_rfl)
          have f143 : sm 143 = undef := hold 143 (by kernel_rfl)
          have f144 : sm 144 = undef := hold 144 (by kernel_rfl)
          have f145 : sm 145 = undef := hold 145 (by kernel_rfl)
          have f146 : sm 146 = undef := hold 146 (by kernel_rfl)
          have f147 : sm 147 = undef := hold 147 (by kernel_rfl)
          have f148 : sm 148 = undef := hold 148 (by kernel_rfl)
          have f149 : sm 149 = undef := hold 149 (by kernel_rfl)
          have f150 : sm 150 = undef := hold 150 (by kernel_rfl)
          have f151 : sm 151 = undef := hold 151 (by kernel_rfl)
          have f152 : sm 152 = undef := hold 152 (by kernel_rfl)
          have f153 : sm 153 = undef := hold 153 (by kernel_rfl)
          have f154 : sm 154 = undef := hold 154 (by kernel_rfl)
          have f155 : sm 155 = undef := hold 155 (by kernel_rfl)
          have f156 : sm 156 = undef := hold 156 (by kernel_rfl)
          have f157 : sm 157 = undef := hold 157 (by kernel_rfl)
          have f158 : sm 158 = undef := hold 158 (by kernel_rfl)
          have f159 : sm 159 = undef := hold 159 (by kernel_rfl)
          have f22 : sm 22 = .int .i64 vy := hnew 12 22 (by kernel_rfl)
          have f112 : sm 112 = .tuple #[.agg #[.int .i64 vk, .int .i64 vn, .string vs_], .int .i64 vy] := hnew 7 112 (by kernel_rfl)
          have f113 : sm 113 = .agg #[.int .i64 x.kind, .string ⟨x.s.toArray⟩, .int .i64 x.n, .slice x.A x.kids.length x.cap] := hnew 0 113 (by kernel_rfl)
          have f114 : sm 114 = .slice (some ⟨gc, 0, none⟩) 3 3 := hnew 1 114 (by kernel_rfl)
          have f115 : sm 115 = .slice (some ⟨gw, 0, none⟩) 2 2 := hnew 2 115 (by kernel_rfl)
          have f116 : sm 116 = .int .i64 (i : Int) := hnew 3 116 (by kernel_rfl)
          have f117 : sm 117 = .pointer (some ⟨gw, i, none⟩) := hnew 4 117 (by kernel_rfl)
          have f118 : sm 118 = .slice (some ⟨gr, 0, none⟩) 3 3 := hnew 5 118 (by kernel_rfl)
          have f119 : sm 119 = .tuple #[.agg #[.int .i64 vk, .int .i64 vn, .string vs_], .int .i64 vy] := hnew 6 119 (by kernel_rfl)
          have f120 : sm 120 = .agg #[.int .i64 vk, .int .i64 vn, .string vs_] := hnew 8 120 (by kernel_rfl)
          have f121 : sm 121 = .int .i64 vy := hnew 9 121 (by kernel_rfl)
          change Exit.then _ _ .normal ⟨#[sm 0, sm 1, sm 2, sm 3, sm 4, sm 5, sm 6, sm 7, sm 8, sm 9, sm 10, sm 11, sm 12, sm 13, sm 14, sm 15, sm 16, sm 17, sm 18, sm 19, sm 20, sm 21, sm 22, sm 23, sm 24, sm 25, sm 26, sm 27, sm 28, sm 29, sm 30, sm 31, sm 32, sm 33, sm 34, sm 35, sm 36, sm 37, sm 38, sm 39, sm 40, sm 41, sm 42, sm 43, sm 44, sm 45, sm 46, sm 47, sm 48, sm 49, sm 50, sm 51, sm 52, sm 53, sm 54, sm 55, sm 56, sm 57, sm 58, sm 59, sm 60, sm 61, sm 62, sm 63, sm 64, sm 65, sm 66, sm 67, sm 68, sm 69, sm 70, sm 71, sm 72, sm 73, sm 74, sm 75, sm 76, sm 77, sm 78, sm 79, sm 80, sm 81, sm 82, sm 83, sm 84, sm 85, sm 86, sm 87, sm 88, sm 89, sm 90, sm 91, sm 92, sm 93, sm 94, sm 95, sm 96, sm 97, sm 98, sm 99, sm 100, sm 101, sm 102, sm 103, sm 104, sm 105, sm 106, sm 107, sm 108, sm 109, sm 110, sm 111, sm 112, sm 113, sm 114, sm 115, sm 116, sm 117, sm 118, sm 119, sm 120, sm 121, sm 122, sm 123, sm 124, sm 125, sm 126, sm 127, sm 128, sm 129, sm 130, sm 131, sm 132, sm 133, sm 134, sm 135, sm 136, sm 137, sm 138, sm 139, sm 140, sm 141, sm 142, sm 143, sm 144, sm 145, sm 146, sm 147, sm 148, sm 149, sm 150, sm 151, sm 152, sm 153, sm 154, sm 155, sm 156, sm 157, sm 158, sm 159], _⟩ _
          simp only [f21, f0, f1, f2, f3, f4, f5, f6, f7, f8, f9, f10, f11, f12, f13, f14, f15, f16, f17, f18, f19, f20, f23, f24, f25, f26, f27, f28, f29, f30, f31, f32, f33, f34, f35, f36, f37, f38, f39, f40, f41, f42, f43, f44, f45, f46, f47, f48, f49, f50, f51, f52, f53, f54, f55, f56, f57, f58, f59, f60, f61, f62, f63, f64, f65, f66, f67, f68, f69, f70, f71, f72, f73, f74, f75, f76, f77, f78, f79, f80, f81, f82, f83, f84, f85, f86, f87, f88, f89, f90, f91, f92, f93, f94, f95, f96, f97, f98, f99, f100, f101, f102, f103, f104, f105, f106, f107, f108, f109, f110, f111, f122, f123, f124, f125, f126, f127, f128, f129, f130, f131, f132, f133, f134, f135, f136, f137, f138, f139, f140, f141, f142, f143, f144, f145, f146, f147, f148, f149, f150, f151, f152, f153, f154, f155, f156, f157, f158, f159, f22, f112, f113, f114, f115, f116, f117, f118, f119, f120, f121]
          clear hold hnew
          have E19 := Lib.hid hEr
          have B1' := BA.ev hEr
          clear hEr
          obtain ⟨⟨p0, p1, p2⟩, _⟩ := B1'.three
          obtain ⟨⟨q0, q1, q2⟩, _⟩ := BB.three
          have e1 := fun w1 => run_eq_val vk vn vs_ vk vn vs_ w1
          have e2 := fun x y w1 => eqGuard_val .eql x y #[.int .i64 vk, .int .i64 vn, .string vs_] #[.int .i64 vk, .int .i64 vn, .string vs_] w1
          have e3 : sameV vk vn vs_ vk vn vs_ = true := sameV_self _ _ _
          simp only [e3] at e1
          unfold vv at e1
          have HSn := Lib.hid (HSi.out.ev (E18.out.trans E19.out))
          have HXn := Lib.hid (HXi.out.ev (E18.out.trans E19.out))
          clear HE1 HE2 HE2a HSi HXi BA BB B1' hb_ga hb_gb HGW HCR HVR E18 E19
          go_wp2
          go_roundw
          case rel => exact ⟨i + 1, by omega, by go_num, HSn, HXn⟩
          case measure => simp [intOf]; omega
        · have i6 : ¬ (i : Int) < 2 := by omega
          go_wp2
          go_roundw
          case rel => exact ⟨q + 1, by omega, by go_num, HSi⟩
          case measure => simp [intOf]; omega
    · have i6 : ¬ (q : Int) < 51 := by omega
      have HOA := Lib.hid (of_at ⟨#[97]⟩ _ xOf_a xOk_a (by decide))
      have HOU := Lib.hid (of_at ⟨#[40, 97, 100, 100, 32, 98, 32, 40, 109, 117, 108, 32, 97, 32, 98, 41, 41]⟩ _ xOf_use xOk_use (by decide))
      have HNS : Hid (∀ w, Calls Try.prog 17 #[.slice (some ⟨w.heap.size, 0, none⟩) 1 1] (w.alloc (.cells #[.int .i64 1] 2)) fun e w' => ∃ A m cap, e = .returned (.slice A m cap) ∧ Vs w' A m cap ([1].map numV) ∧ Ev w w') := Lib.hid fun w1 => nums_lit [1] 1 rfl (by decide) w1 _ rfl
      have HEA := Lib.hid (eval_at _ _ _ _ _ _ _ value_a (by decide +kernel) (by decide +kernel) (fair_nums (by decide)))
      have HTA : Hid (∀ w1, Cs w1 (some ⟨gc, 0, none⟩) 3 3 tcols → Calls Try.prog 12 #[.agg #[.int .i64 4, .string ⟨#[97, 100, 100]⟩, .int .i64 0, .slice none 0 0], .slice (some ⟨gc, 0, none⟩) 3 3] w1 fun e w' => e = .returned (.tuple #[.int .i64 0, .int .i64 22]) ∧ Ev w1 w') := Lib.hid fun w1 hC =>
        type_at _ _ _ _ type_add (by decide +kernel) (by decide +kernel) (.mk 4 bAdd 0 none 0 [] 0) 0 w1 _ _ _ rfl Lx.leaf hC
      have HUS := Lib.hid (fun (m : M) w0 w1 (hm : m.t = useT) (hL : Lx w0 [] w1 m) => by
        have h := ex_uses m w0 w1 hL (by rw [hm]; decide +kernel)
        unfold ev_ M.kv at h
        exact h)
      unfold OfOut at HOA HOU
      unfold ev_ M.kv at HOA HOU
      unfold ev_ M.kv at HEA
      go_wp2_with (first
        | ((with_reducible refine (HOA.out _).mono ?_); rintro e w1 ⟨y, rfl, hyt, hyl, hE1⟩; have HY := Lib.hid hyt; have HYL := Lib.hid hyl)
        | ((with_reducible refine (HNS.out _).mono ?_); rintro e w2 ⟨A2, n2, cap2, rfl, hV2, hE2⟩)
        | ((with_reducible refine (HEA.out y _ _ _ _ _ _ _ _ HY.out (HYL.out.ev hE2) (HS.out.cols.ev (hE1.trans hE2)) hV2).mono ?_); rintro e w3 ⟨rfl, hE3⟩; have HS3 := Lib.hid (HS.out.ev (((hE1.trans hE2).trans hE3).trans (Ev.alloc w3 (.cells #[.int .i64 0, .int .i64 0, .string ⟨#[]⟩] 25)))))
        | ((with_reducible refine (HTA.out _ HS3.out.cols).mono ?_); rintro e w4 ⟨rfl, hE4⟩)
        | ((with_reducible refine (HOU.out _).mono ?_); rintro e w5 ⟨z, rfl, hzt, hzl, hE5⟩; have HZ := Lib.hid hzt; have HZL := Lib.hid hzl)
        | ((with_reducible refine (HUS.out z _ _ HZ.out HZL.out).mono ?_); rintro e w6 ⟨UA, un, ucap, ns, rfl, hus, hall, hun, hub, hE6⟩; rw [HZ.out] at hall; rw [uses_ab hall] at hus; have HKT := Lib.hid (fun B m c w1 (hE : Ev w6 w1) (h : Ss w1 B m c [[97], [98]]) => keep_texts w1 (hus.ev hE) h); clear hus hall hub)
        | ((with_reducible refine (HKT.out _ _ _ _ (Ev.alloc _ _) (ss_ab w6)).mono ?_); rintro e w7 ⟨rfl, hE7⟩)
        | ((with_reducible refine (HKn.out _).mono ?_); rintro r w9 ⟨rfl, hE9⟩))
      go_ret
      exact ⟨rfl, (((((HS3.out.all.trans hE4).trans hE5).trans hE6).trans (Ev.alloc _ _)).trans hE7).trans hE9⟩
end Go.Proofs.Ytgiofdmedhhobaa
