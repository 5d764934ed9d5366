/-
  Texts that belong together: The law's tables (chapter 16): the walk, without rows that are alike. Changes there and back, in plain words; the book's Put and Take. What the law knows (chapter 16). Two slices of changes (chapter 16's law BatchBack). The walk of the law BatchBack. Differences that are added: what BatchSums asks of the sums. The walk of the law BatchSums. Lists of changes that came in.
-/
import Derived.Test.YthpiobkghfdkkaaGreatZ46S
import Derived.Test.YthpiobkghfdkkaaGreatZ47S
import Derived.Test.YthpiobkghfdkkaaGreatZ36S
namespace Go.Proofs.YthpiobkghfdkkaaGreat
open Go.RowKit
set_option linter.unusedVariables false

/-- Changes that came in. -/
structure ChsIn (w : World) (A : Option Addr) (n cap : Nat) (l : List CM) : Prop where
  sl : Sl 3 chc w A n cap l
  each : ∀ x ∈ l, Vs w x.A x.row.length x.cap x.row
theorem ChsIn.ev {w w' : World} {A : Option Addr} {n cap : Nat} {l : List CM} (h : ChsIn w A n cap l) (hE : Ev w w') : ChsIn w' A n cap l := ⟨h.sl.ev hE, fun t ht => (h.each t ht).ev hE⟩
theorem ChsIn.cell {w : World} {A : Option Addr} {n cap : Nat} {l : List CM} (h : ChsIn w A n cap l) {i : Nat} {x : CM} (hx : l[i]? = some x) : ∃ b off, A = some ⟨b, off, none⟩ ∧ b < w.heap.size ∧ w.cell? ⟨b, off + i * 3, none⟩ = some (.string ⟨x.tab.toArray⟩) ∧ w.cell? ⟨b, off + i * 3 + 1, none⟩ = some (.slice x.A x.row.length x.cap) ∧ w.cell? ⟨b, off + i * 3 + 2, none⟩ = some (.bool x.rem) := by
  have hi := (List.getElem?_eq_some_iff.1 hx).1
  have hl := h.sl.len
  obtain ⟨b, off, e, hlt, hc⟩ := h.sl.rd (by omega)
  exact ⟨b, off, e, hlt, hc i x hx 0 _ rfl, hc i x hx 1 _ rfl, hc i x hx 2 _ rfl⟩
def CM.bs (x : CM) : ByteArray := ⟨x.tab.toArray⟩
theorem tame_q (x : CM) (q : Bool) (hq : decide (x.bs.size % 2 = 0) = q) (w : World) (h : Vs w x.A x.row.length x.cap x.row) :
    Calls Tryz.prog 19 #[.agg #[.string x.bs, .slice x.A x.row.length x.cap, .bool x.rem]] w (TameOutA x.rem (cond q ⟨#[116]⟩ ⟨#[117]⟩) (tameX q x.row) w) := by
  cases q
  · exact tameA_u x.rem x.bs (by have := of_decide_eq_false hq; omega) x.row x.A x.row.length x.cap w h
  · exact tameA_t x.rem x.bs (of_decide_eq_true hq) x.row x.A x.row.length x.cap w h
theorem items_snoc (Z : List J) (z : J) : itemsOf (Z ++ [z]) = itemsOf Z ++ [z.2] := by simp [itemsOf]

/-- The items, once a box below is stored into. -/
theorem upd5 {w3 wr w4 : World} {A : Option Addr} {n c g i : Nat} {Z : List J} {v : Value} (h : MkSt w3 (.slice A n c) Z wr) (hE : Ev wr w4) (hg : g < w3.heap.size) : SetNew w3.heap.size (itemsOf Z) (w4.setCell ⟨g, i, none⟩ v) A n c :=
  ((h.ev hE).set_).but (K := [g]) (But.setCell _ _ (by simp)) (fun k hk => by rw [List.mem_singleton.1 hk]; exact hg)

/-- The tables are filled in. -/
theorem tabs_done {g m : Nat} {w w1 w3 wr w4 w6 : World} {SU ST : List I} {A4 A6 : Option Addr} {c4 c6 : Nat} (HEW : Ev w wr) (HG : w.heap.size < g ∧ w1.heap.size < g ∧ g < w3.heap.size) (H3 : Ev w3 wr) (E4 : Ev wr w4) (E6 : Ev (w4.setCell ⟨g, 2, none⟩ (.slice A4 SU.length c4)) w6)
    (HB : Bx 45 g #[.string ⟨#[117]⟩, .slice (some ⟨w.heap.size, 0, none⟩) 2 2, .slice A4 SU.length c4, .string ⟨#[116]⟩, .slice (some ⟨w1.heap.size, 0, none⟩) 3 3, .slice none 0 0] w6)
    (C1 : Cs w3 (some ⟨w.heap.size, 0, none⟩) 2 2 ucols) (C2 : Cs w3 (some ⟨w1.heap.size, 0, none⟩) 3 3 tcols)
    (hSU : SetNew wr.heap.size SU w4 A4 SU.length c4) (hST : SetNew (w4.setCell ⟨g, 2, none⟩ (.slice A4 SU.length c4)).heap.size ST w6 A6 ST.length c6) (sU : SOk false m SU) (sT : SOk true m ST) :
    ∃ (g' : Nat) (tU tT : TM), Ending.returned (.slice (some ⟨g, 0, none⟩) 2 2) = .returned (.slice (some ⟨g', 0, none⟩) 2 2) ∧ TsAt (w6.setCell ⟨g, 5, none⟩ (.slice A6 ST.length c6)) (some ⟨g', 0, none⟩) 2 2 [tU, tT] ∧ UtAt m tU tT ∧ Ev w (w6.setCell ⟨g, 5, none⟩ (.slice A6 ST.length c6)) := by
  have b5 : But [g] w4 (w4.setCell ⟨g, 2, none⟩ (.slice A4 SU.length c4)) := But.setCell _ _ (by simp)
  have b7 : But [g] w6 (w6.setCell ⟨g, 5, none⟩ (.slice A6 ST.length c6)) := But.setCell _ _ (by simp)
  have b47 : But [g] w4 (w6.setCell ⟨g, 5, none⟩ (.slice A6 ST.length c6)) := (b5.then (But.of_ev E6)).then b7
  have h1 := H3.size
  have h4 := E4.size
  have h5 := b5.size
  have cU := ((C1.ev H3).ev E4).but b47 fun ad ea => by
    injection ea with ea
    subst ea
    simp
    omega
  have cT := ((C2.ev H3).ev E4).but b47 fun ad ea => by
    injection ea with ea
    subst ea
    simp
    omega
  have rU := (hSU.but b47 fun k hk => by rw [List.mem_singleton.1 hk]; omega).in_
  have rT := (hST.but b7 fun k hk => by rw [List.mem_singleton.1 hk]; omega).in_
  refine ⟨g, ⟨[117], some ⟨w.heap.size, 0, none⟩, 2, ucols, A4, c4, SU⟩, ⟨[116], some ⟨w1.heap.size, 0, none⟩, 3, tcols, A6, c6, ST⟩, rfl, ⟨two_tabs (HB.set 5 (.slice A6 ST.length c6)), fun t ht => ?_⟩, ⟨⟨rfl, rfl⟩, ⟨rfl, rfl⟩, sU, sT⟩, ((But.of_ev (HEW.trans E4)).then b47).ev fun k hk => by rw [List.mem_singleton.1 hk]; omega⟩
  simp only [List.mem_cons, List.not_mem_nil, or_false] at ht
  rcases ht with rfl | rfl
  · exact ⟨cU, rU⟩
  · exact ⟨cT, rT⟩

set_option maxRecDepth 100000 in
set_option maxHeartbeats 2000000 in
theorem law16_tables {B : Option Addr} {n cap : Nat} {l : List CM} (w : World) (h : ChsIn w B n cap l) :
    Calls Tryz.prog 11 #[.int .i64 0, .slice B n cap] w fun e w' => ∃ (m : Nat) (g : Nat) (tU tT : TM), e = .returned (.slice (some ⟨g, 0, none⟩) 2 2) ∧ m ≤ n ∧ m ≤ 20 ∧ TsAt w' (some ⟨g, 0, none⟩) 2 2 [tU, tT] ∧ UtAt m tU tT ∧ Ev w w' := by
  have hmix : Tryz.prog.follows .mixedOrders = true := by kernel_rfl
  have hst := store_complex
  have hcl := h.sl.le
  have hcm := h.sl.max
  have HL := Lib.hid h.sl.len
  have H := Lib.hid h
  have HKT := Lib.hid (fun w1 => keep_t w1)
  have HKU := Lib.hid (fun w1 => keep_u w1)
  clear h
  go_enter Tryz.func11, Tryz.ntmps11
  go_wp2_with (first
    | ((with_reducible refine (HKU.out _).mono ?_); rintro r w1 ⟨rfl, hC, hE⟩; have HC1 := Lib.hid hC; have E1 := Lib.hid hE; clear hC hE)
    | ((with_reducible refine (HKT.out _).mono ?_); rintro r w2 ⟨rfl, hC, hE⟩; have HC2 := Lib.hid hC; have E2 := Lib.hid hE; clear hC hE; obtain ⟨w3, hw3, hE3, hB3⟩ : ∃ w3, w2.alloc (.cells #[.string ⟨#[117]⟩, .slice (some ⟨w.heap.size, 0, none⟩) 2 2, .slice none 0 0, .string ⟨#[116]⟩, .slice (some ⟨w1.heap.size, 0, none⟩) 3 3, .slice none 0 0] 45) = w3 ∧ Ev w2 w3 ∧ Bx 45 w2.heap.size #[.string ⟨#[117]⟩, .slice (some ⟨w.heap.size, 0, none⟩) 2 2, .slice none 0 0, .string ⟨#[116]⟩, .slice (some ⟨w1.heap.size, 0, none⟩) 3 3, .slice none 0 0] w3 := ⟨_, rfl, Ev.alloc _ _, Bx.new _ _ _⟩; have E3 := Lib.hid hE3; have HB3 := Lib.hid hB3; clear hE3 hB3))
  obtain ⟨g, hg⟩ : ∃ g, g = w2.heap.size := ⟨_, rfl⟩
  have EW : Hid (Ev w w3) := Lib.hid ((E1.out.trans E2.out).trans E3.out)
  rw [← hg] at HB3
  try rw [hw3]
  try rw [← hg]
  have HG : Hid (w.heap.size < g ∧ w1.heap.size < g ∧ g < w3.heap.size) := Lib.hid (by
    obtain ⟨b1, o1, e1, h1, _⟩ := HC1.out.rd (by decide)
    obtain ⟨b2, o2, e2, h2, _⟩ := HC2.out.rd (by decide)
    injection e1 with e1
    injection e1 with e1
    injection e2 with e2
    injection e2 with e2
    have h3 := HB3.out.lt
    have h4 := E2.out.size
    omega)
  have HC2 := Lib.hid (HC2.out.ev E3.out)
  have HC1 := Lib.hid ((HC1.out.ev E2.out).ev E3.out)
  clear hw3 hg
  go_loopw [6, 7, 8] (fun tv uv iv wr => ∃ (TA UA : Option Addr) (tn un tc uc k : Nat) (Zt Zu : List J), tv = .slice TA tn tc ∧ uv = .slice UA un uc ∧ iv = .int .i64 (k : Int) ∧ k ≤ n ∧ k ≤ 20 ∧ Hid (TwSt w3 (.slice TA tn tc) (.slice UA un uc) Zt Zu wr) ∧ Hid (Ones true (itemsOf Zt) ∧ Ones false (itemsOf Zu) ∧ tn + un = k)) (fun _ _ iv _ => n - (intOf iv).toNat)
  case atStart => exact ⟨none, none, 0, 0, 0, 0, 0, [], [], rfl, rfl, rfl, Nat.zero_le _, Nat.zero_le _, Lib.hid (TwSt.start _), Lib.hid ⟨(fun x hx => by cases hx), (fun x hx => by cases hx), rfl⟩⟩
  case round =>
    obtain ⟨TA, UA, tn, un, tc, uc, k, Zt, Zu, rfl, rfl, rfl, hk, hk20, HTW, HON⟩ := hrel
    by_cases hlt : k < n ∧ k < 20
    · obtain ⟨hlt, hl20⟩ := hlt
      obtain ⟨x, hx⟩ := H.out.sl.at hlt
      have HXR := Lib.hid (H.out.each x (List.mem_of_getElem? hx))
      obtain ⟨b, off, rfl, hb, c0, c1, c2⟩ := (H.out.ev (EW.out.trans HTW.out.ev)).cell hx
      have i1 : (0 : Int) ≤ (k : Int) := by omega
      have i2 : (k : Int) < (n : Int) := by omega
      have i3 : (k : Int) < 20 := by omega
      have hv0 : (⟨x.tab.toArray⟩ : ByteArray) = x.bs := rfl
      rw [hv0] at c0
      clear hx hv0
      cases hq : decide (x.bs.size % 2 = 0)
      · have HTM := Lib.hid (fun w1 (hE : Ev wr w1) => tame_q x false hq w1 (HXR.out.ev ((EW.out.trans HTW.out.ev).trans hE)))
        unfold TameOutA at HTM
        simp only [cond_false] at HTM
        clear hq
        go_upto_region 7 with (first
          | ((with_reducible refine (HTM.out _ (Ev.refl _)).mono ?_); rintro r wt ⟨TB, bk, bc, rfl, hV, hVb, hE⟩; have HV := Lib.hid hV; have HVB := Lib.hid hVb; have ET := Lib.hid hE; clear hV hVb hE))
        obtain ⟨wx, hwx, hEx, hX⟩ : ∃ wx, wt.alloc (.cells #[.string ⟨#[117]⟩, .slice TB bk bc, .bool x.rem] 25) = wx ∧ Ev wt wx ∧ Bx 25 wt.heap.size #[.string ⟨#[117]⟩, .slice TB bk bc, .bool x.rem] wx := ⟨_, rfl, Ev.alloc _ _, Bx.new _ _ _⟩
        rw [hwx]
        have HVX : Hid (Vs wx TB bk bc (tameX false x.row) ∧ ∀ ad, TB = some ad → w3.heap.size ≤ ad.block ∧ ad.block < wx.heap.size) := Lib.hid ⟨HV.out.ev hEx, fun ad ea => ⟨Nat.le_trans HTW.out.ev.size (HVB.out ad ea).1, Nat.lt_of_lt_of_le (HVB.out ad ea).2 hEx.size⟩⟩
        have EX := Lib.hid (ET.out.trans hEx)
        generalize wt.heap.size = bx at *
        obtain ⟨⟨x0, x1, x2⟩, _⟩ := hX.three
        have HAPP : ∃ A9 c9 w9, (Builtin.append_ #[40, 40] 40 #[.slice UA un uc, .slice (some ⟨wx.heap.size, 0, none⟩) 1 1]).run Tryz.prog (wx.alloc (.cells #[.slice TB bk bc, .complex .f64 4607182418800017408 0] 62)) = .ok (.slice A9 (un + 1) c9) w9 ∧ TwSt w3 (.slice TA tn tc) (.slice A9 (un + 1) c9) Zt (Zu ++ [((TB, bk, bc), (tameX false x.row, 1, 0))]) w9 := by
          have h := (HTW.out.up EX.out).app (y := ((TB, bk, bc), (tameX false x.row, 1, 0))) HVX.out.1 HVX.out.2 (fun e => by have := rightR_len (tameX_right false x.row); rw [show tameX false x.row = [] from e] at this; simp at this) (by have := HTW.out.u.sl.len; have := HON.out.2.2; omega)
          simp only [fl_1, fl_zero] at h
          exact h
        obtain ⟨A9, c9, w9, hr9, ht9⟩ := HAPP
        have HT9 := Lib.hid ht9
        clear ht9 hEx hX hwx
        go_wp2_with (first
          | (at_builtin; refine Lib.wpList_append_run _ rfl _ _ _ _ rfl _ _ rfl rfl _ _ hr9 ?_))
        go_roundw
        case rel => exact ⟨TA, A9, tn, un + 1, tc, c9, k + 1, Zt, Zu ++ [((TB, bk, bc), (tameX false x.row, 1, 0))], rfl, rfl, by go_num, by omega, by omega, HT9, Lib.hid ⟨HON.out.1, by rw [items_snoc]; exact HON.out.2.1.snoc x.row, by have := HON.out.2.2; omega⟩⟩
        case measure => simp [intOf]; omega
      · have HTM := Lib.hid (fun w1 (hE : Ev wr w1) => tame_q x true hq w1 (HXR.out.ev ((EW.out.trans HTW.out.ev).trans hE)))
        unfold TameOutA at HTM
        simp only [cond_true] at HTM
        clear hq
        go_upto_region 7 with (first
          | ((with_reducible refine (HTM.out _ (Ev.refl _)).mono ?_); rintro r wt ⟨TB, bk, bc, rfl, hV, hVb, hE⟩; have HV := Lib.hid hV; have HVB := Lib.hid hVb; have ET := Lib.hid hE; clear hV hVb hE))
        obtain ⟨wx, hwx, hEx, hX⟩ : ∃ wx, wt.alloc (.cells #[.string ⟨#[116]⟩, .slice TB bk bc, .bool x.rem] 25) = wx ∧ Ev wt wx ∧ Bx 25 wt.heap.size #[.string ⟨#[116]⟩, .slice TB bk bc, .bool x.rem] wx := ⟨_, rfl, Ev.alloc _ _, Bx.new _ _ _⟩
        rw [hwx]
        have HVX : Hid (Vs wx TB bk bc (tameX true x.row) ∧ ∀ ad, TB = some ad → w3.heap.size ≤ ad.block ∧ ad.block < wx.heap.size) := Lib.hid ⟨HV.out.ev hEx, fun ad ea => ⟨Nat.le_trans HTW.out.ev.size (HVB.out ad ea).1, Nat.lt_of_lt_of_le (HVB.out ad ea).2 hEx.size⟩⟩
        have EX := Lib.hid (ET.out.trans hEx)
        generalize wt.heap.size = bx at *
        obtain ⟨⟨x0, x1, x2⟩, _⟩ := hX.three
        have HAPP : ∃ A9 c9 w9, (Builtin.append_ #[40, 40] 40 #[.slice TA tn tc, .slice (some ⟨wx.heap.size, 0, none⟩) 1 1]).run Tryz.prog (wx.alloc (.cells #[.slice TB bk bc, .complex .f64 4607182418800017408 0] 62)) = .ok (.slice A9 (tn + 1) c9) w9 ∧ TwSt w3 (.slice UA un uc) (.slice A9 (tn + 1) c9) Zu (Zt ++ [((TB, bk, bc), (tameX true x.row, 1, 0))]) w9 := by
          have h := (HTW.out.swap.up EX.out).app (y := ((TB, bk, bc), (tameX true x.row, 1, 0))) HVX.out.1 HVX.out.2 (fun e => by have := rightR_len (tameX_right true x.row); rw [show tameX true x.row = [] from e] at this; simp at this) (by have := HTW.out.t.sl.len; have := HON.out.2.2; omega)
          simp only [fl_1, fl_zero] at h
          exact h
        obtain ⟨A9, c9, w9, hr9, ht9⟩ := HAPP
        have HT9 := Lib.hid ht9
        clear ht9 hEx hX hwx
        go_wp2_with (first
          | (at_builtin; refine Lib.wpList_append_run _ rfl _ _ _ _ rfl _ _ rfl rfl _ _ hr9 ?_))
        go_roundw
        case rel => exact ⟨A9, UA, tn + 1, un, c9, uc, k + 1, Zt ++ [((TB, bk, bc), (tameX true x.row, 1, 0))], Zu, rfl, rfl, by go_num, by omega, by omega, Lib.hid HT9.out.swap, Lib.hid ⟨by rw [items_snoc]; exact HON.out.1.snoc x.row, HON.out.2.1, by have := HON.out.2.2; omega⟩⟩
        case measure => simp [intOf]; omega
    · have HTL : Hid (tn ≤ 20 ∧ un ≤ 20) := Lib.hid (by have := HON.out.2.2; omega)
      have HTK : Hid (tn ≤ k ∧ un ≤ k) := Lib.hid (by have := HON.out.2.2; omega)
      have HKK : Hid (k ≤ n ∧ k ≤ 20) := Lib.hid ⟨hk, hk20⟩
      have HMT := Lib.hid (fun w1_ (hE : Ev wr w1_) => rf6_make (l := itemsOf Zt) w1_ ((HTW.out.t.ev hE).set_).in_ HON.out.1.addI (by have := HTL.out; omega))
      have HMU := Lib.hid (fun w1_ (hE : Ev wr w1_) => rf6_make (l := itemsOf Zu) w1_ ((HTW.out.u.ev hE).set_).in_ HON.out.2.1.addI (by have := HTL.out; omega))
      have HBW := Lib.hid (HB3.out.ev HTW.out.ev)
      by_cases hkn : k < n
      · have i2 : (k : Int) < (n : Int) := by omega
        have i3 : ¬ (k : Int) < 20 := by omega
        go_wp2_with (first
          | ((with_reducible refine (HMU.out _ (Ev.refl _)).mono ?_); rintro r w4 ⟨SU, A4, c4, rfl, hS, hP, hN, hE⟩; have HSU := Lib.hid hS; have HPU := Lib.hid (And.intro hP hN); have E4 := Lib.hid hE; have HB4 := Lib.hid (HBW.out.ev hE); clear hS hP hN hE; obtain ⟨f4, l4, e4⟩ : w4.frozen? ⟨g, 2, none⟩ = false ∧ g < w4.heap.size ∧ w4.cell? ⟨g, 2, none⟩ = some (.slice none 0 0) := ⟨HB4.out.frozen 2, HB4.out.lt, HB4.out.cell 2⟩; have HU5 := Lib.hid (upd5 (i := 2) (v := .slice A4 SU.length c4) HTW.out.t E4.out HG.out.2.2); have HMT5 := Lib.hid (rf6_make (l := itemsOf Zt) _ HU5.out.in_ HON.out.1.addI (by have := HTL.out; omega)); have HB5 := Lib.hid (HB4.out.set 2 (.slice A4 SU.length c4)))
          | ((with_reducible refine (HMT5.out).mono ?_); rintro r w6 ⟨ST, A6, c6, rfl, hS, hP, hN, hE⟩; have HST := Lib.hid hS; have HPT := Lib.hid (And.intro hP hN); have E6 := Lib.hid hE; have HB6 := Lib.hid (HB5.out.ev hE); clear hS hP hN hE; obtain ⟨f6, l6, e6⟩ : w6.frozen? ⟨g, 5, none⟩ = false ∧ g < w6.heap.size ∧ w6.cell? ⟨g, 5, none⟩ = some (.slice none 0 0) := ⟨HB6.out.frozen 5, HB6.out.lt, HB6.out.cell 5⟩))
        go_ret
        obtain ⟨g9, tU9, tT9, h91, h92, h93, h94⟩ := tabs_done (m := k) (HEW := EW.out.trans HTW.out.ev) HG.out HTW.out.ev E4.out E6.out HB6.out HC1.out HC2.out HSU.out HST.out (sok_of HPU.out.1 HON.out.2.1 HPU.out.2 (by rw [itemsOf_length, HTW.out.u.sl.len]; exact HTK.out.2)) (sok_of HPT.out.1 HON.out.1 HPT.out.2 (by rw [itemsOf_length, HTW.out.t.sl.len]; exact HTK.out.1))
        exact ⟨k, g9, tU9, tT9, h91, HKK.out.1, HKK.out.2, h92, h93, h94⟩
      · have i2 : ¬ (k : Int) < (n : Int) := by omega
        go_wp2_with (first
          | ((with_reducible refine (HMU.out _ (Ev.refl _)).mono ?_); rintro r w4 ⟨SU, A4, c4, rfl, hS, hP, hN, hE⟩; have HSU := Lib.hid hS; have HPU := Lib.hid (And.intro hP hN); have E4 := Lib.hid hE; have HB4 := Lib.hid (HBW.out.ev hE); clear hS hP hN hE; obtain ⟨f4, l4, e4⟩ : w4.frozen? ⟨g, 2, none⟩ = false ∧ g < w4.heap.size ∧ w4.cell? ⟨g, 2, none⟩ = some (.slice none 0 0) := ⟨HB4.out.frozen 2, HB4.out.lt, HB4.out.cell 2⟩; have HU5 := Lib.hid (upd5 (i := 2) (v := .slice A4 SU.length c4) HTW.out.t E4.out HG.out.2.2); have HMT5 := Lib.hid (rf6_make (l := itemsOf Zt) _ HU5.out.in_ HON.out.1.addI (by have := HTL.out; omega)); have HB5 := Lib.hid (HB4.out.set 2 (.slice A4 SU.length c4)))
          | ((with_reducible refine (HMT5.out).mono ?_); rintro r w6 ⟨ST, A6, c6, rfl, hS, hP, hN, hE⟩; have HST := Lib.hid hS; have HPT := Lib.hid (And.intro hP hN); have E6 := Lib.hid hE; have HB6 := Lib.hid (HB5.out.ev hE); clear hS hP hN hE; obtain ⟨f6, l6, e6⟩ : w6.frozen? ⟨g, 5, none⟩ = false ∧ g < w6.heap.size ∧ w6.cell? ⟨g, 5, none⟩ = some (.slice none 0 0) := ⟨HB6.out.frozen 5, HB6.out.lt, HB6.out.cell 5⟩))
        go_ret
        obtain ⟨g9, tU9, tT9, h91, h92, h93, h94⟩ := tabs_done (m := k) (HEW := EW.out.trans HTW.out.ev) HG.out HTW.out.ev E4.out E6.out HB6.out HC1.out HC2.out HSU.out HST.out (sok_of HPU.out.1 HON.out.2.1 HPU.out.2 (by rw [itemsOf_length, HTW.out.u.sl.len]; exact HTK.out.2)) (sok_of HPT.out.1 HON.out.1 HPT.out.2 (by rw [itemsOf_length, HTW.out.t.sl.len]; exact HTK.out.1))
        exact ⟨k, g9, tU9, tT9, h91, HKK.out.1, HKK.out.2, h92, h93, h94⟩
end Go.Proofs.YthpiobkghfdkkaaGreat

namespace Go.Proofs.YthpiobkghfdkkaaGreat
open Go.RowKit
set_option linter.unusedVariables false

theorem chS_cons (q : Bool) (x : CM) (l : List CM) (f : List V → Int) : chS q (x :: l) f = (if x.tab = nmT q then f x.row * oneE x.rem else 0) + chS q l f := by
  unfold chS
  by_cases h : x.tab = nmT q
  · rw [List.filter_cons_of_pos (by simpa using h), List.map_cons, List.sum_cons, if_pos h]
  · rw [List.filter_cons_of_neg (by simpa using h), if_neg h]
    omega
/-- A batch that is taken is applied. -/
theorem ApplyOut.good {m : Nat} {l : List CM} {tU tT : TM} {w : World} {e : Ending} {w' : World} (h : ApplyOut m l tU tT w e w') (h0 : 0 < l.length) (h8 : l.length ≤ 8)
    (hg : ∀ (k : Nat) (y : CM) (q : Bool) (tU' tT' : TM), l[k]? = some y → y.tab = nmT q → Behind m (l.take k) tU tT tU' tT' → whyC (rowsQ q tU' tT') y.row y.rem = 0) :
    Ev w w' ∧ ∃ (g cap : Nat) (tU' tT' : TM) (A : Option Addr) (n c : Nat) (Z : List DL) (dT dU : Option (List I)), e = .returned (.tuple #[.slice (some ⟨g, 0, none⟩) 2 cap, .slice A n c, .int .i64 0, .int .i64 0]) ∧ TabSt w.heap.size g cap [tU', tT'] w' ∧ Behind m l tU tT tU' tT' ∧ Sl 2 dlc w' A n c Z ∧ (∀ d ∈ Z, SetNew w.heap.size d.rows w' d.A d.rows.length d.cap) ∧ Z.map nr = dF dT dU ∧ DOk true l dT ∧ DOk false l dU := by
  refine ⟨h.1, ?_⟩
  have ht : takenN l.length = 0 := by unfold takenN; rw [if_neg (by omega), if_neg (by omega)]
  rcases h.2 with ⟨g, cap, tU', tT', A, n, c, Z, dT, dU, h1, _, _, h4⟩ | ⟨k, why, _, h2, h3 | ⟨_, q, y, tU', tT', h4, h5, h6, h7⟩⟩
  · exact ⟨g, cap, tU', tT', A, n, c, Z, dT, dU, h1, h4⟩
  · exact absurd (h3.1.symm.trans ht) h2
  · exact absurd (h7.trans (hg k y q tU' tT' h4 h5 h6)) h2
theorem UtAt.rows {m : Nat} {tU tT : TM} (h : UtAt m tU tT) (q : Bool) : SOk q m (rowsQ q tU tT) := by
  cases q
  · exact h.sU
  · exact h.sT
theorem SOk.tot {q : Bool} {m : Nat} {S : List I} (h : SOk q m S) : netS (fun _ => 1) S ≤ m := by
  rw [← absS_nn S fun x hx => by have := h.nn.adds h.z x hx; unfold netI; omega]
  have := h.z.small
  omega
set_option maxRecDepth 100000 in
theorem keep_put {A : Option Addr} {n cap : Nat} (s : ByteArray) (w : World) : Calls Tryz.prog 9 #[.string s, .slice A n cap] w fun e w' => e = .returned (.agg #[.string s, .slice A n cap, .bool false]) ∧ Ev w w' := by
  go_enter Tryz.func9, Tryz.ntmps9
  go_wp2
  refine bodyPost_ret (results_cell1 rfl _ _ _ _ _ rfl (Bx.new 25 _ _) Tryz.underlying25 rfl Tryz.sizeChange) rfl ?_
  exact ⟨rfl, Ev.alloc _ _⟩
set_option maxRecDepth 100000 in
theorem keep_take {A : Option Addr} {n cap : Nat} (s : ByteArray) (w : World) : Calls Tryz.prog 12 #[.string s, .slice A n cap] w fun e w' => e = .returned (.agg #[.string s, .slice A n cap, .bool true]) ∧ Ev w w' := by
  go_enter Tryz.func12, Tryz.ntmps12
  go_wp2
  refine bodyPost_ret (results_cell1 rfl _ _ _ _ _ rfl (Bx.new 25 _ _) Tryz.underlying25 rfl Tryz.sizeChange) rfl ?_
  exact ⟨rfl, Ev.alloc _ _⟩

theorem sok_zero {q : Bool} {S : List I} (h : SOk q 0 S) : S = [] := by
  cases S with
  | nil => rfl
  | cons x S =>
    have h1 := h.nn.adds h.z x (List.mem_cons_self ..)
    have h2 := h.z.small
    rw [absS_cons] at h2
    unfold netI at h2
    omega
/-- The row (1, 1), once in and out of u. -/
def k11 : List V := ([1, 1] : List Int).map numV
theorem fits_k11 : fitsL ucols k11 = true := by kernel_rfl
theorem right_k11 : rightR k11 = true := by kernel_rfl
def kCh (A : Option Addr) (c : Nat) (rem : Bool) : CM := ⟨[117], A, c, k11, rem⟩
theorem kCh_ok (A : Option Addr) (c : Nat) (rem : Bool) : ChOk (kCh A c rem) := ⟨false, rfl, fits_k11, right_k11⟩
theorem kCh_u (A : Option Addr) (c : Nat) (rem : Bool) : (kCh A c rem).tab = nmT false := rfl
theorem kCh_t (A : Option Addr) (c : Nat) (rem : Bool) : (kCh A c rem).tab ≠ nmT true := by
  show ([117] : By) ≠ [116]
  decide
theorem nmT_117 {q : Bool} (h : ([117] : By) = nmT q) : q = false := by
  cases q
  · rfl
  · exact absurd h (by decide)
theorem known_one {A B : Option Addr} {c d : Nat} {tU tT : TM} {w w' : World} {e : Ending} (hU : UtAt 0 tU tT) (h : ApplyOut 0 [kCh A c false, kCh B d true] tU tT w e w') :
    Ev w w' ∧ ∃ (g cap : Nat) (b off k : Nat) (D : Option Addr) (dc : Nat), e = .returned (.tuple #[.slice (some ⟨g, 0, none⟩) 2 cap, .slice (some ⟨b, off, none⟩) 1 k, .int .i64 0, .int .i64 0]) ∧ 1 ≤ k ∧ k ≤ 9223372036854775807 ∧ b < w'.heap.size ∧ w'.cell? ⟨b, off, none⟩ = some (.string ⟨#[117]⟩) ∧ w'.cell? ⟨b, off + 1, none⟩ = some (.slice D 0 dc) := by
  obtain ⟨h1, g, cap, tU', tT', A', n, c', Z, dT, dU, rfl, _, _, hs, _, hz, hT, hUd⟩ := h.good (by simp) (by simp) (fun k y q tU' tT' hy hq hb => by
    match k, hy with
    | 0, hy =>
      obtain rfl := Option.some.inj hy
      have h1 := (hb.ut.rows q).tot
      unfold whyC
      show (if false = true then _ else _) = _
      rw [if_neg (by decide), if_neg (by simp at h1; omega)]
    | 1, hy =>
      obtain rfl := Option.some.inj hy
      obtain rfl := nmT_117 hq
      have h1 := hb.sum false (oneRow k11)
      have h2 := (hU.rows false).nn k11
      rw [cnt] at h2
      rw [show List.take 1 [kCh A c false, kCh B d true] = [kCh A c false] from rfl, chS_cons] at h1
      have h3 : (if (kCh A c false).tab = nmT false then oneRow k11 (kCh A c false).row * oneE (kCh A c false).rem else 0) = 1 := by
        rw [if_pos (kCh_u ..)]
        show oneRow k11 k11 * 1 = 1
        unfold oneRow
        simp
      rw [h3, show chS false [] (oneRow k11) = 0 from rfl] at h1
      unfold whyC
      show (if true = true then _ else _) = _
      rw [if_pos rfl, if_neg]
      show ¬ cnt k11 _ = 0
      rw [cnt]
      omega
    | _ + 2, hy => simp at hy)
  refine ⟨h1, ?_⟩
  have hdT : dT = none := by
    cases dT with
    | none => rfl
    | some s =>
      obtain ⟨_, _, x, hx, hx2⟩ := hT
      simp only [List.mem_cons, List.not_mem_nil, or_false] at hx
      rcases hx with rfl | rfl
      · exact absurd hx2 (kCh_t _ _ _)
      · exact absurd hx2 (kCh_t _ _ _)
  have hdU : dU = some [] := by
    cases dU with
    | none => exact absurd rfl (hUd (kCh A c false) (List.mem_cons_self ..))
    | some s =>
      obtain ⟨h1, h2, _⟩ := hUd
      congr 1
      refine h1.same (ZOk.nil_ 0) fun f => ?_
      rw [h2, chS_cons, chS_cons, netS_nil, if_pos (kCh_u ..), if_pos (kCh_u ..), show chS false [] f = 0 from rfl]
      show f k11 * 1 + (f k11 * (-1) + 0) = 0
      omega
  subst hdT; subst hdU
  match Z, hz with
  | [z], hz =>
    have hz1 : nr z = (([117] : By), ([] : List I)) := by simpa [dF] using hz
    unfold nr at hz1
    injection hz1 with e1 e2
    obtain rfl : n = 1 := by rw [← hs.len]; rfl
    obtain ⟨b, off, rfl, hlt, hc⟩ := hs.rd (by decide)
    have c0 := hc 0 z rfl 0 _ rfl
    have c1 := hc 0 z rfl 1 _ rfl
    rw [e1] at c0
    rw [e2] at c1
    have hle := hs.le
    have hmx := hs.max
    exact ⟨g, cap, b, off, c', z.A, z.cap, rfl, hle, hmx, hlt, by simpa using c0, by simpa using c1⟩
  | [], hz => simp [dF] at hz
  | _ :: _ :: _, hz => simp [dF] at hz
theorem known_two {A : Option Addr} {c : Nat} {tU tT : TM} {w w' : World} {e : Ending} (hU : UtAt 0 tU tT) (h : ApplyOut 0 [kCh A c true] tU tT w e w') : Ev w w' ∧ e = .returned (.tuple #[.slice none 0 0, .slice none 0 0, .int .i64 25, .int .i64 0]) := by
  refine ⟨h.1, ?_⟩
  have hrow : ∀ q, rowsQ q tU tT = [] := fun q => sok_zero (hU.rows q)
  have ht : takenN 1 = 0 := rfl
  rcases h.2 with ⟨g, cap, tU', tT', A', n, c', Z, dT, dU, _, _, _, _, hb, _⟩ | ⟨k, why, rfl, h2, h3 | ⟨_, q, y, tU', tT', h4, h5, h6, h7⟩⟩
  · have h1 := hb.sum false (oneRow k11)
    have h2 := (hb.ut.rows false).nn k11
    rw [cnt] at h2
    rw [hrow, netS_nil, chS_cons, if_pos (kCh_u ..), show chS false [] (oneRow k11) = 0 from rfl] at h1
    have h3 : oneRow k11 (kCh A c true).row * oneE (kCh A c true).rem = -1 := by
      show oneRow k11 k11 * (-1) = -1
      unfold oneRow
      simp
    omega
  · exact absurd (h3.1.symm.trans ht) h2
  · match k, h4 with
    | 0, h4 =>
      obtain rfl := Option.some.inj h4
      have h8 : why = 25 := by
        rw [h7] at h2 ⊢
        unfold whyC at h2 ⊢
        split at h2
        · rename_i h9
          rw [if_pos h9]
          split at h2
          · rename_i h8
            rw [if_pos h8]
          · exact absurd rfl h2
        · rename_i hn
          exact absurd rfl hn
      rw [h8]
      rfl
    | _ + 1, h4 => simp at h4
end Go.Proofs.YthpiobkghfdkkaaGreat

namespace Go.Proofs.YthpiobkghfdkkaaGreat
open Go.RowKit
set_option linter.unusedVariables false

theorem chs_nil (w : World) : ChsIn w none 0 0 [] := ⟨⟨rfl, Nat.le_refl _, by decide, (fun _ => ⟨rfl, rfl⟩), (fun h => absurd h (by decide))⟩, (fun x hx => by cases hx)⟩
theorem nums11 (w : World) : Calls Tryz.prog 10 #[.slice (some ⟨w.heap.size, 0, none⟩) 2 2] (w.alloc (.cells #[.int .i64 1, .int .i64 1] 2)) fun e w' => ∃ A cap, e = .returned (.slice A 2 cap) ∧ NumRow [1, 1] w' A 2 cap ∧ Ev w w' :=
  (nums_row [1, 1] 2 rfl (by decide) (by decide) w _ rfl).mono fun e w' ⟨A, m, cap, he, hn, hE⟩ => by
    obtain rfl : m = 2 := by rw [← hn.1.len]; rfl
    exact ⟨A, cap, he, hn, hE⟩
theorem chs_two {A B : Option Addr} {c d : Nat} {w : World} (h : NumRow [1, 1] w A 2 c) (h' : NumRow [1, 1] w B 2 d) : ChsAt (w.alloc (.cells #[.string ⟨#[117]⟩, .slice A 2 c, .bool false, .string ⟨#[117]⟩, .slice B 2 d, .bool true] 25)) (some ⟨w.heap.size, 0, none⟩) 2 2 [kCh A c false, kCh B d true] := by
  refine ⟨Sl.made (enc := chc) (fun _ => rfl) [kCh A c false, kCh B d true] 2 rfl (by decide) w _ _ rfl, fun x hx => ?_⟩
  simp only [List.mem_cons, List.not_mem_nil, or_false] at hx
  rcases hx with rfl | rfl
  · exact CmAt.ev ⟨h.1, h.2⟩ (Ev.alloc _ _)
  · exact CmAt.ev ⟨h'.1, h'.2⟩ (Ev.alloc _ _)
theorem chs_one {A : Option Addr} {c : Nat} {w : World} (h : NumRow [1, 1] w A 2 c) : ChsAt (w.alloc (.cells #[.string ⟨#[117]⟩, .slice A 2 c, .bool true] 25)) (some ⟨w.heap.size, 0, none⟩) 1 1 [kCh A c true] := by
  refine ⟨Sl.made (enc := chc) (fun _ => rfl) [kCh A c true] 1 rfl (by decide) w _ _ rfl, fun x hx => ?_⟩
  rw [List.mem_singleton.1 hx]
  exact CmAt.ev ⟨h.1, h.2⟩ (Ev.alloc _ _)

set_option maxRecDepth 100000 in
set_option maxHeartbeats 2000000 in
theorem law16_known (w : World) : Calls Tryz.prog 17 #[] w fun e w' => e = .returned (.bool true) ∧ Ev w w' := by
  have hmix : Tryz.prog.follows .mixedOrders = true := by kernel_rfl
  have HTB := Lib.hid (law16_tables w (chs_nil w))
  have HNM := Lib.hid (fun w1 => nums11 w1)
  have HPU := Lib.hid (fun (A : Option Addr) (n c : Nat) (s : ByteArray) w1 => keep_put (A := A) (n := n) (cap := c) s w1)
  have HTA := Lib.hid (fun (A : Option Addr) (n c : Nat) (s : ByteArray) w1 => keep_take (A := A) (n := n) (cap := c) s w1)
  go_enter Tryz.func17, Tryz.ntmps17
  go_wp2_with (first
    | ((with_reducible refine (HTB.out).mono ?_); rintro r w1 ⟨m, g, tU, tT, rfl, hm, _, hts, hut, hE⟩; obtain rfl := Nat.le_zero.1 hm; have HTS := Lib.hid hts; have HUT := Lib.hid hut; have E1 := Lib.hid hE; clear hm hts hut hE)
    | ((with_reducible refine (HNM.out _).mono ?_); rintro r w2 ⟨A2, c2, rfl, hn, hE⟩; have HN2 := Lib.hid hn; have E2 := Lib.hid (E1.out.trans hE); have F2 := Lib.hid hE; clear hn hE)
    | ((with_reducible refine (HPU.out _ _ _ _ _).mono ?_); rintro r w3 ⟨rfl, hE⟩; have E3 := Lib.hid (E2.out.trans hE); have F3 := Lib.hid hE; clear hE)
    | ((with_reducible refine (HNM.out _).mono ?_); rintro r w4 ⟨A4, c4, rfl, hn, hE⟩; have HN4 := Lib.hid hn; have E4 := Lib.hid (E3.out.trans hE); have F4 := Lib.hid (F3.out.trans hE); clear hn hE)
    | ((with_reducible refine (HTA.out _ _ _ _ _).mono ?_); rintro r w5 ⟨rfl, hE⟩; have E5 := Lib.hid (E4.out.trans hE); have F5 := Lib.hid (F4.out.trans hE); have HA1 := Lib.hid (bt_Apply (w5.alloc (.cells #[.string ⟨#[117]⟩, .slice A2 2 c2, .bool false, .string ⟨#[117]⟩, .slice A4 2 c4, .bool true] 25)) (HTS.out.ev ((F2.out.trans F5.out).trans (Ev.alloc _ _))) HUT.out (by decide) (chs_two (HN2.out.ev F5.out) (HN4.out.ev hE)) (fun y hy => by
        simp only [List.mem_cons, List.not_mem_nil, or_false] at hy
        rcases hy with rfl | rfl
        · exact kCh_ok _ _ _
        · exact kCh_ok _ _ _) (by decide)); clear hE)
    | ((with_reducible refine (HA1.out).mono ?_); intro r w6 hap; obtain ⟨hE, g6, cap6, b6, off6, k6, D6, dc6, rfl, hk6, hk6m, hb6, d0_, d1_⟩ := known_one HUT.out hap; have E6 := Lib.hid ((E5.out.trans (Ev.alloc _ _)).trans hE); have F6 := Lib.hid ((F5.out.trans (Ev.alloc _ _)).trans hE); clear hE hap)
    | ((with_reducible refine (HNM.out _).mono ?_); rintro r w7 ⟨A7, c7, rfl, hn, hE⟩; have HN7 := Lib.hid hn; have E7 := Lib.hid (E6.out.trans hE); have F7 := Lib.hid hE; clear hn hE)
    | ((with_reducible refine (HTA.out _ _ _ _ _).mono ?_); rintro r w8 ⟨rfl, hE⟩; have E8 := Lib.hid (E7.out.trans hE); have F8 := Lib.hid (F7.out.trans hE); have HA2 := Lib.hid (bt_Apply (w8.alloc (.cells #[.string ⟨#[117]⟩, .slice A7 2 c7, .bool true] 25)) (HTS.out.ev (((F2.out.trans F6.out).trans F8.out).trans (Ev.alloc _ _))) HUT.out (by decide) (chs_one (HN7.out.ev hE)) (fun y hy => by
        rw [List.mem_singleton.1 hy]
        exact kCh_ok _ _ _) (by decide)); clear hE)
    | ((with_reducible refine (HA2.out).mono ?_); intro r w9 hap; obtain ⟨hE, rfl⟩ := known_two HUT.out hap; have E9 := Lib.hid ((E8.out.trans (Ev.alloc _ _)).trans hE); have F9 := Lib.hid ((F8.out.trans (Ev.alloc _ _)).trans hE); clear hE hap; have d0 := (F9.out.cell (p := ⟨b6, off6, none⟩) hb6).trans d0_; have d1 := (F9.out.cell (p := ⟨b6, off6 + 1, none⟩) hb6).trans d1_; clear d0_ d1_))
  go_ret
  exact ⟨rfl, E9.out⟩
end Go.Proofs.YthpiobkghfdkkaaGreat

namespace Go.Proofs.YthpiobkghfdkkaaGreat
open Go.RowKit
set_option linter.unusedVariables false

/-- The cells of a change are no whole number. -/
def PvC (u : Value) : Prop := (∃ s, u = .string s) ∨ (∃ A n c, u = .slice A n c) ∨ ∃ b, u = .bool b
theorem pvc_c (x : CM) : ∀ u ∈ chc x, PvC u := fun u hu => by
  simp [chc] at hu
  rcases hu with rfl | rfl | rfl
  · exact .inl ⟨_, rfl⟩
  · exact .inr (.inl ⟨_, _, _, rfl⟩)
  · exact .inr (.inr ⟨_, rfl⟩)
theorem pvc_zero : ∀ u ∈ (Value.agg #[.string ⟨#[]⟩, .slice none 0 0, .bool false]).cells.toList, PvC u := fun u hu => by
  simp [Value.cells] at hu
  rcases hu with rfl | rfl | rfl
  · exact .inl ⟨_, rfl⟩
  · exact .inr (.inl ⟨_, _, _, rfl⟩)
  · exact .inr (.inr ⟨_, rfl⟩)
theorem pvc_int (a : Int) : ¬ PvC (.int .i64 a) := fun h => by
  rcases h with ⟨s, e⟩ | ⟨A, n, c, e⟩ | ⟨b, e⟩ <;> cases e
theorem Tryz.underlying_changes : Tryz.prog.underlying 30 = some (.slice 25) := by kernel_rfl
theorem Tryz.infoChangeC : (Tryz.prog.info? 25).map (fun i => (i.zero, i.size, i.bytes)) = some (some (.agg #[.string ⟨#[]⟩, .slice none 0 0, .bool false]), 3, 48) := by kernel_rfl
theorem vs_pastC {wr wq : World} {base : Nat} {v : Value} {Z : List CM} (hO : Ow 25 3 chc base wr v Z) (hp : OwP PvC wr v) (hb : But (foot v) wr wq) {A : Option Addr} {n c : Nat} {r : List V} (h : Vs wr A n c r) : Vs wq A n c r := by
  cases hv : v.ownBlock with
  | none => exact h.ev (hb.ev fun g hg => by rw [mem_foot, hv] at hg; cases hg)
  | some g =>
    have hf : foot v = [g] := by unfold foot; rw [hv]; rfl
    rw [hf] at hb
    exact h.past hb fun x hx => ⟨0, .int .i64 x.1, rfl, fun o hc => pvc_int _ (own_all hO hp hv hc)⟩
/-- Changes in a slice of one's own, their rows in memory of their own. -/
structure ChSt (w : World) (v : Value) (Z : List CM) (wr : World) : Prop where
  own : Ow 25 3 chc w.heap.size wr v Z
  pv : OwP PvC wr v
  rows : ∀ y ∈ Z, Vs wr y.A y.row.length y.cap y.row ∧ ∀ ad, y.A = some ad → w.heap.size ≤ ad.block ∧ ad.block < wr.heap.size
theorem ChSt.start (w wr : World) : ChSt w (.slice none 0 0) [] wr := ⟨Ow.nil_ _, OwP.none_ _ _ _ _, (fun z hz => by cases hz)⟩
theorem ChSt.ev {w wr wq : World} {v : Value} {Z : List CM} (h : ChSt w v Z wr) (hE : Ev wr wq) : ChSt w v Z wq := ⟨h.own.ev hE, h.pv.ev h.own hE, fun z hz => ⟨(h.rows z hz).1.ev hE, fun ad ea => ⟨((h.rows z hz).2 ad ea).1, Nat.lt_of_lt_of_le ((h.rows z hz).2 ad ea).2 hE.size⟩⟩⟩
theorem ChSt.high {w wr : World} {v : Value} {Z : List CM} (h : ChSt w v Z wr) : ∀ k ∈ foot v, w.heap.size ≤ k ∧ k < wr.heap.size := fun k hk => h.own.lt (mem_foot.1 hk)
theorem ChSt.sl {w wr : World} {A : Option Addr} {n c : Nat} {Z : List CM} (h : ChSt w (.slice A n c) Z wr) : Sl 3 chc wr A n c Z := by
  obtain ⟨A1, c1, e, hS, _⟩ := h.own.form encCh
  injection e with e1 e2 e3
  subst e1; subst e2; subst e3
  exact hS
theorem ChSt.chs {w wr : World} {A : Option Addr} {n c : Nat} {Z : List CM} (h : ChSt w (.slice A n c) Z wr) : ChsAt wr A n c Z := ⟨h.sl, fun x hx => ⟨(h.rows x hx).1, fun ad ea => ((h.rows x hx).2 ad ea).2⟩⟩
theorem ChSt.but {w wr wq : World} {v vo : Value} {Z Zo : List CM} (h : ChSt w v Z wr) (ho : ChSt w vo Zo wr) (hb : But (foot vo) wr wq) (hd : ∀ g ∈ foot v, g ∉ foot vo) : ChSt w v Z wq := by
  refine ⟨h.own.but hb fun g hg => hd g (mem_foot.2 hg), fun g hg cs T q hc u hu => ?_, fun z hz => ⟨vs_pastC ho.own ho.pv hb (h.rows z hz).1, fun ad ea => ⟨((h.rows z hz).2 ad ea).1, Nat.lt_of_lt_of_le ((h.rows z hz).2 ad ea).2 hb.size⟩⟩⟩
  have h1 := (h.own.lt hg).2
  exact h.pv g hg cs T q (by rw [← hb.block g h1 (hd g (mem_foot.2 hg))]; exact hc) u hu
theorem ChSt.snoc_ {w wq w9 : World} {v v9 : Value} {Z : List CM} {y : CM} (h : ChSt w v Z wq) (h3 : Vs wq y.A y.row.length y.cap y.row) (h4 : ∀ ad, y.A = some ad → w.heap.size ≤ ad.block ∧ ad.block < wq.heap.size)
    (hA : AppSt 25 3 chc w.heap.size wq v (Z ++ [y]) v9 w9) (hP : OwP PvC w9 v9) : ChSt w v9 (Z ++ [y]) w9 := by
  refine ⟨hA.1, hP, fun z hz => ?_⟩
  rcases List.mem_append.1 hz with hz | hz
  · exact ⟨vs_pastC h.own h.pv hA.2.1 (h.rows z hz).1, fun ad ea => ⟨((h.rows z hz).2 ad ea).1, Nat.lt_of_lt_of_le ((h.rows z hz).2 ad ea).2 hA.2.1.size⟩⟩
  · rw [List.mem_singleton.1 hz]
    exact ⟨vs_pastC h.own h.pv hA.2.1 h3, fun ad ea => ⟨(h4 ad ea).1, Nat.lt_of_lt_of_le (h4 ad ea).2 hA.2.1.size⟩⟩
/-- Two such slices. -/
structure TcSt (w1 : World) (tv uv : Value) (Zt Zu : List CM) (wr : World) : Prop where
  t : ChSt w1 tv Zt wr
  u : ChSt w1 uv Zu wr
  apart : ∀ g ∈ foot tv, g ∉ foot uv
  ev : Ev w1 wr
theorem TcSt.up {w1 wr wq : World} {tv uv : Value} {Zt Zu : List CM} (h : TcSt w1 tv uv Zt Zu wr) (hE : Ev wr wq) : TcSt w1 tv uv Zt Zu wq := ⟨h.t.ev hE, h.u.ev hE, h.apart, h.ev.trans hE⟩
theorem TcSt.start (w : World) : TcSt w (.slice none 0 0) (.slice none 0 0) [] [] w := ⟨ChSt.start w w, ChSt.start w w, (fun g hg => by simp [foot, Value.ownBlock] at hg), Ev.refl w⟩
theorem TcSt.app {w1 wq : World} {tv : Value} {A : Option Addr} {n c : Nat} {Zt Zu : List CM} {y : CM} (h : TcSt w1 tv (.slice A n c) Zt Zu wq) (h3 : Vs wq y.A y.row.length y.cap y.row) (h4 : ∀ ad, y.A = some ad → w1.heap.size ≤ ad.block ∧ ad.block < wq.heap.size) (hn : Zu.length < 1000000) :
    ∃ A' c' w', (Builtin.append_ #[30, 30] 30 #[.slice A n c, .slice (some ⟨wq.heap.size, 0, none⟩) 1 1]).run Tryz.prog (wq.alloc (.cells #[.string ⟨y.tab.toArray⟩, .slice y.A y.row.length y.cap, .bool y.rem] 25)) = .ok (.slice A' (n + 1) c') w' ∧ TcSt w1 tv (.slice A' (n + 1) c') Zt (Zu ++ [y]) w' ∧ But (foot (.slice A n c)) wq w' ∧ ∀ g ∈ foot (.slice A' (n + 1) c'), g ∈ foot (.slice A n c) ∨ wq.heap.size ≤ g := by
  have hl : Zu.length = n := h.u.sl.len
  have hE1 := Ev.alloc wq (.cells #[.string ⟨y.tab.toArray⟩, .slice y.A y.row.length y.cap, .bool y.rem] 25)
  have h1 := h.up hE1
  obtain ⟨v', w', hr, hA, hP⟩ := run_append_owPm (P := Tryz.prog) PvC encCh 30 30 Tryz.underlying_changes Tryz.infoChangeC rfl h1.u.own (some ⟨wq.heap.size, 0, none⟩) 1 1 [y] (Sl.one (et := 25) encCh wq y #[.string ⟨y.tab.toArray⟩, .slice y.A y.row.length y.cap, .bool y.rem] rfl) (by omega) (by simp; omega) (by simp; omega) h1.ev.size pvc_zero (fun z _ => pvc_c z) h1.u.pv
  have h2 := h1.u.snoc_ (h3.ev hE1) (fun ad ea => ⟨(h4 ad ea).1, Nat.lt_of_lt_of_le (h4 ad ea).2 hE1.size⟩) hA hP
  have h5 := h1.t.but h1.u hA.2.1 h1.apart
  have h6 : ∀ g ∈ foot tv, g ∉ foot v' := fun g hg hm => by
    rcases hA.2.2 g (mem_foot.1 hm) with h7 | h7
    · exact h1.apart g hg (mem_foot.2 h7)
    · have := (h1.t.high g hg).2
      omega
  have h8 : Ev w1 w' := ((But.of_ev h1.ev).then hA.2.1).ev fun g hg => (h1.u.high g hg).1
  have h10 : ∀ g ∈ foot v', g ∈ foot (.slice A n c) ∨ wq.heap.size ≤ g := fun g hg => (hA.2.2 g (mem_foot.1 hg)).imp (fun e => mem_foot.2 e) (fun e => Nat.le_trans hE1.size e)
  have h9 := (But.of_ev (K := foot (.slice A n c)) hE1).then hA.2.1
  obtain ⟨A', c', rfl, _⟩ := h2.own.form encCh
  rw [List.length_append, hl] at hr h2 h6 h10
  exact ⟨A', c', w', hr, ⟨h5, h2, h6, h8⟩, h9, h10⟩
end Go.Proofs.YthpiobkghfdkkaaGreat

namespace Go.Proofs.YthpiobkghfdkkaaGreat
open Go.RowKit
set_option linter.unusedVariables false

theorem same_rows {w3 : World} {A B : Option Addr} {c d m : Nat} {q : Bool} {S T : List I} (w4 : World) (h : SetIn S w3 A S.length c) (h' : SetIn T w3 B T.length d) (e : S = T) (hE : Ev w3 w4) (hk : SOk q m T) : Calls Tryz.prog 22 #[.slice A S.length c, .slice B T.length d] w4 (Yes w4) := by
  subst e
  exact zset_same w4 (h.ev hE) (h'.ev hE) hk.z.parts hk.z.set hk.z.right

end Go.Proofs.YthpiobkghfdkkaaGreat

namespace Go.Proofs.YthpiobkghfdkkaaGreat
open Go.RowKit
set_option linter.unusedVariables false
set_option maxRecDepth 100000

/-- What the differences named so give together. -/
def sumD (q : Bool) (f : List V → Int) : List DL → Int
  | [] => 0
  | d :: Z => (if d.name = nmT q then netS f d.rows else 0) + sumD q f Z
theorem sumD_snoc (q : Bool) (f : List V → Int) (d : DL) : ∀ Z : List DL, sumD q f (Z ++ [d]) = sumD q f Z + (if d.name = nmT q then netS f d.rows else 0)
  | [] => by simp [sumD]
  | x :: Z => by simp only [List.cons_append, sumD, sumD_snoc q f d Z]; omega
theorem take_snocD {Z : List DL} {k : Nat} {d : DL} (h : Z[k]? = some d) : Z.take (k + 1) = Z.take k ++ [d] := by
  rw [List.take_add_one, h]; rfl
theorem nmT_inj {a b : Bool} (h : nmT a = nmT b) : a = b := by
  cases a <;> cases b <;> simp [nmT] at h ⊢
theorem chS_nil_of {q : Bool} {l : List CM} (h : ∀ x ∈ l, x.tab ≠ nmT q) (f : List V → Int) : chS q l f = 0 := by
  unfold chS
  have e : (l.filter fun x => decide (x.tab = nmT q)) = [] := by
    rw [List.filter_eq_nil_iff]
    intro x hx
    simp [h x hx]
  rw [e]; rfl
theorem sumD_all {Z : List DL} {dT dU : Option (List I)} {l : List CM} (h : Z.map nr = dF dT dU) (hT : DOk true l dT) (hU : DOk false l dU) (q : Bool) (f : List V → Int) : sumD q f Z = chS q l f := by
  have n1 : ([116] : By) = nmT true := rfl
  have n2 : ([117] : By) = nmT false := rfl
  have n3 : nmT true ≠ nmT false := by decide
  have n4 : nmT false ≠ nmT true := by decide
  rcases dF_cases h with ⟨rfl, rfl, rfl⟩ | ⟨s, d, rfl, rfl, rfl, hn, hr⟩ | ⟨s, d, rfl, rfl, rfl, hn, hr⟩ | ⟨s, s', d, d', rfl, rfl, rfl, hn, hr, hn', hr'⟩
  · cases q
    · rw [chS_nil_of hU]; rfl
    · rw [chS_nil_of hT]; rfl
  · cases q
    · rw [chS_nil_of hU]; simp [sumD, hn, n1, n3]
    · rw [← hT.2.1 f]; simp [sumD, hn, n1, hr]
  · cases q
    · rw [← hU.2.1 f]; simp [sumD, hn, n2, hr]
    · rw [chS_nil_of hT]; simp [sumD, hn, n2, n4]
  · cases q
    · rw [← hU.2.1 f]; simp [sumD, hn, n1, n3, hn', n2, hr']
    · rw [← hT.2.1 f]; simp [sumD, hn, n1, hn', n2, n4, hr]
theorem dF_each {Z : List DL} {dT dU : Option (List I)} {l : List CM} (h : Z.map nr = dF dT dU) (hT : DOk true l dT) (hU : DOk false l dU) {k : Nat} {d : DL} (hd : Z[k]? = some d) : (∃ b, d.name = nmT b) ∧ ZOk l.length d.rows ∧ k < 2 := by
  rcases dF_cases h with ⟨rfl, rfl, rfl⟩ | ⟨s, e, rfl, rfl, rfl, hn, hr⟩ | ⟨s, e, rfl, rfl, rfl, hn, hr⟩ | ⟨s, s', e, e', rfl, rfl, rfl, hn, hr, hn', hr'⟩
  · simp at hd
  · match k, hd with
    | 0, hd => simp at hd; subst hd; exact ⟨⟨true, hn⟩, by rw [hr]; exact hT.1, by omega⟩
    | k + 1, hd => simp at hd
  · match k, hd with
    | 0, hd => simp at hd; subst hd; exact ⟨⟨false, hn⟩, by rw [hr]; exact hU.1, by omega⟩
    | k + 1, hd => simp at hd
  · match k, hd with
    | 0, hd => simp at hd; subst hd; exact ⟨⟨true, hn⟩, by rw [hr]; exact hT.1, by omega⟩
    | 1, hd => simp at hd; subst hd; exact ⟨⟨false, hn'⟩, by rw [hr']; exact hU.1, by omega⟩
    | k + 2, hd => simp at hd

/-- The sum of two sets: the set of their sums, in new memory. -/
theorem add_ok {a b : Nat} {S T : List I} {A B : Option Addr} {cap cap' : Nat} (w : World) (h : SetIn S w A S.length cap) (h' : SetIn T w B T.length cap') (hS : ZOk a S) (hT : ZOk b T) (hab : a + b ≤ 1000) :
    Calls Tryz.prog 21 #[.slice A S.length cap, .slice B T.length cap'] w fun e w' => ∃ (R : List I) (A' : Option Addr) (c : Nat), e = .returned (.tuple #[.slice A' R.length c, .int .i64 0]) ∧ SetIn R w' A' R.length c ∧ ZOk (a + b) R ∧ (∀ f, netS f R = netS f S + netS f T) ∧ Ev w w' := by
  have hl1 := zok_len hS
  have hl2 := zok_len hT
  have hab2 : absS (S ++ T) ≤ a + b := by rw [absS_append]; have := hS.small; have := hT.small; omega
  obtain ⟨R, hm, hz, hn, _⟩ := make_of (S ++ T) (fun x hx => by
    rcases List.mem_append.1 hx with hx | hx
    · exact hS.right x hx
    · exact hT.right x hx) (fun x hx => by
    rcases List.mem_append.1 hx with hx | hx
    · exact hS.parts x hx
    · exact hT.parts x hx) (by omega)
  refine (add_in w h h' (by omega) (by omega) (fun x hx => by
    rcases List.mem_append.1 hx with hx | hx
    · exact hS.tallies x hx
    · exact hT.tallies x hx)).mono ?_
  rintro e w' ⟨⟨A', c, rfl, hN⟩, hE⟩
  rw [hm] at hN ⊢
  refine ⟨R, A', c, rfl, hN.in_, hz.more hab2, fun f => by rw [hn f, netS_append], hE⟩
end Go.Proofs.YthpiobkghfdkkaaGreat

namespace Go.Proofs.YthpiobkghfdkkaaGreat
open Go.RowKit
set_option linter.unusedVariables false

/-- One change more behind a slice of changes. -/
theorem ch_app {w1 wq : World} {A : Option Addr} {n c : Nat} {Z : List CM} (h : TcSt w1 (.slice none 0 0) (.slice A n c) [] Z wq) (y : CM) (h3 : Vs wq y.A y.row.length y.cap y.row) (h4 : ∀ ad, y.A = some ad → w1.heap.size ≤ ad.block ∧ ad.block < wq.heap.size) (hn : Z.length < 1000000) :
    ∃ A' c' w', (Builtin.append_ #[30, 30] 30 #[.slice A n c, .slice (some ⟨wq.heap.size, 0, none⟩) 1 1]).run Tryz.prog (wq.alloc (.cells #[.string ⟨y.tab.toArray⟩, .slice y.A y.row.length y.cap, .bool y.rem] 25)) = .ok (.slice A' (n + 1) c') w' ∧ TcSt w1 (.slice none 0 0) (.slice A' (n + 1) c') [] (Z ++ [y]) w' := by
  obtain ⟨A', c', w', h1, h2, _⟩ := h.app h3 h4 hn
  exact ⟨A', c', w', h1, h2⟩

set_option maxRecDepth 100000 in
set_option maxHeartbeats 4000000 in
theorem sums_walk {B C : Option Addr} {n cap n2 cap2 : Nat} {l l2 : List CM} (w : World) (h : ChsIn w B n cap l) (h' : ChsIn w C n2 cap2 l2) :
    Calls Tryz.prog 5 #[.slice B n cap, .slice C n2 cap2] w fun e w' => e = .returned (.bool true) ∧ Ev w w' := by
  have hmix : Tryz.prog.follows .mixedOrders = true := by kernel_rfl
  have hcl := h'.sl.le
  have hcm := h'.sl.max
  have H := Lib.hid h'
  have HTB := Lib.hid (law16_tables w h)
  have HKN := Lib.hid (fun w1 => law16_known w1)
  clear h h'
  go_enter Tryz.func5, Tryz.ntmps5
  go_wp2_with (first
    | ((with_reducible refine (HTB.out).mono ?_); rintro r w1 ⟨m0, g0, tU, tT, rfl, _, hm0, hts, hut, hE⟩; have HTS := Lib.hid hts; have HUT := Lib.hid hut; have E1 := Lib.hid hE; clear hts hut hE))
  go_loopw [6, 7] (fun sv iv wr => ∃ (SA : Option Addr) (sc k : Nat) (L : List CM), sv = .slice SA k sc ∧ iv = .int .i64 (k : Int) ∧ k ≤ n2 ∧ k ≤ 8 ∧ Hid (TcSt w1 (.slice none 0 0) (.slice SA k sc) [] L wr) ∧ Hid (∀ y ∈ L, ChOk y)) (fun _ iv _ => n2 - (intOf iv).toNat)
  case atStart => exact ⟨none, 0, 0, [], rfl, rfl, Nat.zero_le _, Nat.zero_le _, Lib.hid (TcSt.start _), Lib.hid (fun y hy => by cases hy)⟩
  case round =>
    obtain ⟨SA, sc, k, L, rfl, rfl, hk, hk8, HTC, HLK⟩ := hrel
    have HLL : Hid (L.length = k) := Lib.hid HTC.out.u.sl.len
    by_cases hlt : k < n2 ∧ k < 8
    · obtain ⟨hlt, hl8⟩ := hlt
      obtain ⟨x, hx⟩ := H.out.sl.at hlt
      have HXR := Lib.hid (H.out.each x (List.mem_of_getElem? hx))
      obtain ⟨b, off, rfl, hb, c0, c1, c2⟩ := (H.out.ev (E1.out.trans HTC.out.ev)).cell hx
      have i1 : (0 : Int) ≤ (k : Int) := by omega
      have i2 : (k : Int) < (n2 : Int) := by omega
      have i3 : (k : Int) < 8 := by omega
      have hv0 : (⟨x.tab.toArray⟩ : ByteArray) = x.bs := rfl
      rw [hv0] at c0
      clear hx hv0
      obtain ⟨q, hq⟩ : ∃ q, decide (x.bs.size % 2 = 0) = q := ⟨_, rfl⟩
      obtain ⟨nm, hnm⟩ : ∃ nm : ByteArray, nm = ⟨(nmT q).toArray⟩ := ⟨_, rfl⟩
      have HTM := Lib.hid (fun w1_ (hE : Ev wr w1_) => tame_q x q hq w1_ (HXR.out.ev ((E1.out.trans HTC.out.ev).trans hE)))
      unfold TameOutA at HTM
      rw [show (cond q ⟨#[116]⟩ ⟨#[117]⟩ : ByteArray) = nm by rw [hnm]; cases q <;> rfl] at HTM
      have HNM := Lib.hid hnm
      clear hq hnm
      go_wp2_with (first
        | ((with_reducible refine (HTM.out _ (Ev.refl _)).mono ?_); rintro r wt ⟨TB, bk, bc_, rfl, hV, hVb, hE⟩; have hbk : bk = (tameX q x.row).length := hV.len.symm; subst hbk; obtain ⟨SA9, sc9, w9, hr9, hT9⟩ := ch_app (HTC.out.up hE) ⟨nmT q, TB, bc_, tameX q x.row, x.rem⟩ hV (fun ad ea => ⟨Nat.le_trans HTC.out.ev.size (hVb ad ea).1, (hVb ad ea).2⟩) (by rw [HLL.out]; omega); have HT9 := Lib.hid hT9; simp only [← HNM.out] at hr9; clear hV hVb hE hT9)
        | ((show wpList _ _ _ (⟨some 34, _, _, _, _, _⟩ :: _) _ _); refine Lib.wpList_append_run _ rfl _ _ _ _ rfl _ _ rfl rfl _ _ hr9 ?_))
      exact ⟨⟨SA9, sc9, k + 1, L ++ [⟨nmT q, TB, bc_, tameX q x.row, x.rem⟩], rfl, by simp, by omega, by omega, HT9, Lib.hid (fun y hy => by
        rcases List.mem_append.1 hy with hy | hy
        · exact HLK.out y hy
        · rw [List.mem_singleton.1 hy]
          exact ⟨q, rfl, tameX_fits q _, tameX_right q _⟩)⟩, by simp [intOf]; omega⟩
    · have hcs : ¬ (k : Int) < n2 ∨ ((k : Int) < n2 ∧ ¬ (k : Int) < 8) := by
        by_cases h1 : k < n2
        · exact .inr ⟨by omega, fun h2 => hlt ⟨h1, by omega⟩⟩
        · exact .inl (by omega)
      have HTW := Lib.hid (HTS.out.ev HTC.out.ev)
      have EW := Lib.hid (E1.out.trans HTC.out.ev)
      have HAA := Lib.hid (fun (w2 : World) (hE : Ev wr w2) => bt_Apply w2 (HTW.out.ev hE) HUT.out (by omega) ((HTC.out.u.ev hE).chs) HLK.out (by omega))
      clear hlt
      rcases hcs with i2 | ⟨i2, i3⟩
      all_goals
        go_upto_region 8 with ((with_reducible refine (HAA.out _ (Ev.refl _)).mono ?_); intro r w2 hap; obtain ⟨hE2, ⟨g1, cap1, tU1, tT1, A1, n1, c1_, Z1, dT1, dU1, rfl, hl0, hl8, hts1, hb1, hsl, hnew, hnr, hdT, hdU⟩ | ⟨kk, why, rfl, hwhy, hkk⟩⟩ := hap)
        · have HT1 := Lib.hid (show TsAt w2 (some ⟨g1, 0, none⟩) 2 cap1 [tU1, tT1] from hts1.ts)
          have HT0 := Lib.hid (HTW.out.ev hE2)
          have EW2 := Lib.hid (EW.out.trans hE2)
          have HB1 := Lib.hid hb1
          have HSL := Lib.hid hsl; have HNW := Lib.hid hnew; have HNR := Lib.hid hnr; have HDT := Lib.hid hdT; have HDU := Lib.hid hdU
          obtain ⟨bq0, oq0, eq0, hg1, m0c, _, _⟩ := HT1.out.cell (i := 0) (t := tU1) rfl
          obtain ⟨bq1, oq1, eq1, _, m1c, _, _⟩ := HT1.out.cell (i := 1) (t := tT1) rfl
          simp only [Option.some.injEq, Addr.mk.injEq, and_true] at eq0 eq1
          obtain ⟨rfl, rfl⟩ := eq0
          obtain ⟨rfl, rfl⟩ := eq1
          rw [HB1.out.ut.nU.1] at m0c
          rw [HB1.out.ut.nT.1] at m1c
          simp only [Nat.zero_mul, Nat.add_zero, Nat.zero_add, Nat.one_mul] at m0c m1c
          have hsn : Z1.length = n1 := hsl.len
          clear hts1 hb1 hsl hnew hnr hdT hdU hE2
          go_upto_region 13 with fail
          clear m0c m1c
          go_loopw [12] (fun iv wq => ∃ ii : Nat, iv = .int .i64 (ii : Int) ∧ ii ≤ 2 ∧ Ev w2 wq) (fun iv _ => 2 - (intOf iv).toNat)
          case atStart => exact ⟨0, rfl, by omega, Ev.refl _⟩
          case round =>
            rename World => wq
            obtain ⟨ii, rfl, hii, hEq⟩ := hrel
            by_cases hi2 : ii < 2
            · obtain ⟨q, R, N, hR, hN, hRr, hNr, hNn⟩ : ∃ (q : Bool) (R N : TM), [tU, tT][ii]? = some R ∧ [tU1, tT1][ii]? = some N ∧ R.rows = rowsQ q tU tT ∧ N.rows = rowsQ q tU1 tT1 ∧ N.name = nmT q := by
                match ii, hi2 with
                | 0, _ => exact ⟨false, tU, tU1, rfl, rfl, rfl, rfl, HB1.out.ut.nU.1⟩
                | 1, _ => exact ⟨true, tT, tT1, rfl, rfl, rfl, rfl, HB1.out.ut.nT.1⟩
              obtain ⟨b0, o0, e0, hb0, _, _, r2c⟩ := (HT0.out.ev hEq).cell hR
              obtain ⟨b1, o1, e1, hb1, s0c, _, s2c⟩ := (HT1.out.ev hEq).cell hN
              simp only [Option.some.injEq, Addr.mk.injEq, and_true] at e0 e1
              obtain ⟨rfl, rfl⟩ := e0
              obtain ⟨rfl, rfl⟩ := e1
              simp only [Nat.zero_add] at r2c s0c s2c
              rw [hNn] at s0c
              have hSR := ((HT0.out.ev hEq).each R (List.mem_of_getElem? hR)).rows
              have hSN := ((HT1.out.ev hEq).each N (List.mem_of_getElem? hN)).rows
              have hZR : ZOk m0 R.rows := by rw [hRr]; exact (HUT.out.rows q).z
              have hON : SOk q (m0 + L.length) N.rows := by rw [hNr]; exact HB1.out.ut.rows q
              have hsum : ∀ f, netS f N.rows = netS f R.rows + sumD q f Z1 := fun f => by
                rw [hNr, hRr, HB1.out.sum q f, sumD_all HNR.out HDT.out HDU.out q f]
              have HSR := Lib.hid hSR; have HSN := Lib.hid hSN; have HZR := Lib.hid hZR; have HON := Lib.hid hON; have HSM := Lib.hid hsum
              have hi0 : (0 : Int) ≤ (ii : Int) := by omega
              have hi2b : (ii : Int) < 2 := by omega
              clear hR hN hRr hNr hNn hSR hSN hZR hON hsum
              go_upto_region 17 with fail
              go_loopw [13, 14] (fun sv kv wv => ∃ (A9 : Option Addr) (c9 kz : Nat) (S : List I), sv = .slice A9 S.length c9 ∧ kv = .int .i64 (kz : Int) ∧ kz ≤ n1 ∧ Hid (SetIn S wv A9 S.length c9) ∧ Hid (ZOk (20 + 8 * kz) S) ∧ Hid (∀ f, netS f S = netS f R.rows + sumD q f (Z1.take kz)) ∧ Hid (Ev wq wv)) (fun _ kv _ => n1 - (intOf kv).toNat)
              case atStart => exact ⟨R.rA, R.rc, 0, R.rows, rfl, rfl, Nat.zero_le _, HSR, Lib.hid (HZR.out.more (by omega)), Lib.hid (fun f => by simp [sumD]), Lib.hid (Ev.refl _)⟩
              case round =>
                rename World => wv
                obtain ⟨A9, c9, kz, S, rfl, rfl, hkz, HS, HZ, HF, HEv⟩ := hrel
                by_cases hkn : kz < n1
                · obtain ⟨d, hd⟩ : ∃ d, Z1[kz]? = some d := ⟨_, List.getElem?_eq_getElem (by rw [hsn]; exact hkn)⟩
                  obtain ⟨⟨bn, hbn⟩, hZd, hk2⟩ := dF_each HNR.out HDT.out HDU.out hd
                  have E2v := hEq.trans HEv.out
                  obtain ⟨bd, od, ed, hbd, hcd⟩ := (HSL.out.ev E2v).rd (by omega)
                  have d0 := hcd kz d hd 0 _ rfl
                  have d1 := hcd kz d hd 1 _ rfl
                  simp only [Nat.add_zero] at d0
                  rw [hbn] at d0
                  have s0v := (HEv.out.cell (p := ⟨g1, ii * 3, none⟩) (Nat.lt_of_lt_of_le hg1 hEq.size)).trans s0c
                  have hSd := ((HNW.out d (List.mem_of_getElem? hd)).ev E2v).in_
                  have hsnoc := take_snocD hd
                  have HADD := Lib.hid (fun w9 (hE : Ev wv w9) => add_ok w9 (HS.out.ev hE) (hSd.ev hE) HZ.out hZd (by have := HLL.out; omega))
                  have HSn := Lib.hid hsnoc; have HZd := Lib.hid hZd; have HBN := Lib.hid hbn
                  have k0 : (0 : Int) ≤ (kz : Int) := by omega
                  have k1 : (kz : Int) < (n1 : Int) := by omega
                  subst ed
                  clear hcd hd hsnoc hSd hZd hbn E2v
                  by_cases hbq : bn = q
                  · subst hbq
                    obtain ⟨nb, hnb⟩ : ∃ nb : ByteArray, nb = ⟨(nmT bn).toArray⟩ := ⟨_, rfl⟩
                    rw [← hnb] at d0 s0v s0c
                    clear hnb
                    go_upto_region 19 with fail
                    go_quiet (fail)
                    go_wp2_with ((with_reducible refine (HADD.out _ (Ev.drewN _ _)).mono ?_); rintro r w9 ⟨S9, A10, c10, rfl, hS9, hZ9, hF9, hE9⟩)
                    exact ⟨⟨A10, c10, kz + 1, S9, rfl, by simp, by omega, Lib.hid hS9, Lib.hid (hZ9.more (by have := HLL.out; omega)), Lib.hid (fun f => by rw [hF9 f, HF.out f, HSn.out, sumD_snoc, if_pos HBN.out]; omega), Lib.hid ((HEv.out.trans (Ev.drewN _ _)).trans hE9)⟩, by simp [intOf]; omega⟩
                  · have hne : nmT bn ≠ nmT q := fun e => hbq (nmT_inj e)
                    have hnnb : ((⟨(nmT bn).toArray⟩ : ByteArray).toList == (⟨(nmT q).toArray⟩ : ByteArray).toList) = false := by cases bn <;> cases q <;> first | exact absurd rfl hbq | decide +kernel
                    obtain ⟨nb, hnb⟩ : ∃ nb : ByteArray, nb = ⟨(nmT bn).toArray⟩ := ⟨_, rfl⟩
                    obtain ⟨nq, hnq⟩ : ∃ nq : ByteArray, nq = ⟨(nmT q).toArray⟩ := ⟨_, rfl⟩
                    have hnn : nb ≠ nq := fun e => hne (by rw [hnb, hnq] at e; simpa using congrArg (fun x : ByteArray => x.data.toList) e)
                    rw [← hnb, ← hnq] at hnnb
                    have HNE := Lib.hid hne
                    rw [← hnb] at d0
                    rw [← hnq] at s0v s0c
                    clear hnb hnq hne
                    go_upto_region 19 with fail
                    go_quiet (fail)
                    go_wp2
                    exact ⟨⟨A9, c9, kz + 1, S, rfl, by simp, by omega, Lib.hid (HS.out.ev (Ev.drewN _ _)), Lib.hid (HZ.out.more (by omega)), Lib.hid (fun f => by rw [HF.out f, HSn.out, sumD_snoc, HBN.out, if_neg HNE.out]; omega), Lib.hid (HEv.out.trans (Ev.drewN _ _))⟩, by simp [intOf]; omega⟩
                · obtain rfl : kz = n1 := by omega
                  have hfull : Z1.take kz = Z1 := List.take_of_length_le (by omega)
                  have heq : S = N.rows := HZ.out.same HON.out.z fun f => by rw [HF.out f, hfull, HSM.out f]
                  have HSame := Lib.hid (same_rows wv HS.out (HSN.out.ev HEv.out) heq (Ev.refl _) HON.out)
                  have HPl := Lib.hid (fun w9 (hE : Ev wv w9) => plain_in w9 ((HSN.out.ev HEv.out).ev hE) HON.out.z.parts)
                  rw [HON.out.nn.plain HON.out.z] at HPl
                  have s2v := (HEv.out.cell (p := ⟨g1, ii * 3 + 2, none⟩) (Nat.lt_of_lt_of_le hg1 hEq.size)).trans s2c
                  have HEq := Lib.hid hEq
                  have hgl := Nat.lt_of_lt_of_le (Nat.lt_of_lt_of_le hg1 hEq.size) HEv.out.size
                  unfold Yes at HSame
                  clear heq hfull hEq
                  go_wp2_with (first
                    | ((with_reducible refine HSame.out.mono ?_); rintro r w5 ⟨rfl, hE5⟩; have t2v := (hE5.cell (p := ⟨g1, ii * 3 + 2, none⟩) hgl).trans s2v)
                    | ((with_reducible refine (HPl.out _ hE5).mono ?_); rintro r w6 ⟨rfl, hE6⟩))
                  exact ⟨⟨ii + 1, by simp, by omega, ((HEq.out.trans HEv.out).trans hE5).trans hE6⟩, by simp [intOf]; omega⟩
            · have HK1 := Lib.hid (HKN.out wq)
              obtain rfl : ii = 2 := by omega
              have HEq := Lib.hid hEq
              clear hEq
              go_wp2_with ((with_reducible refine HK1.out.mono ?_); rintro r w3 ⟨rfl, hE3⟩)
              go_ret
              exact ⟨rfl, (EW2.out.trans HEq.out).trans hE3⟩
        · have hk2 : (kk = 0 ∧ k = 0) ∨ (kk : Int) < (k : Int) := by
            have hll := HLL.out
            rcases hkk with ⟨h1, h2⟩ | ⟨_, q, y, _, _, hy, _⟩
            · left
              refine ⟨h2, ?_⟩
              by_cases h0 : k = 0
              · exact h0
              · exfalso
                unfold takenN at h1
                rw [if_neg (by omega), if_neg (by omega)] at h1
                exact hwhy h1.symm
            · right
              have := (List.getElem?_eq_some_iff.1 hy).1
              omega
          have hwb : (why == 0) = false := beq_eq_false_iff_ne.2 hwhy
          have EW2 := Lib.hid (EW.out.trans hE2)
          have HK1 := Lib.hid (HKN.out w2)
          clear hkk hE2
          rcases hk2 with ⟨rfl, rfl⟩ | hk2
          · go_wp2_with ((with_reducible refine HK1.out.mono ?_); rintro r w3 ⟨rfl, hE3⟩)
            all_goals (go_ret; exact ⟨rfl, EW2.out.trans hE3⟩)
          · have hk3 : (0 : Int) ≤ (kk : Int) := by omega
            go_wp2_with ((with_reducible refine HK1.out.mono ?_); rintro r w3 ⟨rfl, hE3⟩)
            all_goals (go_ret; exact ⟨rfl, EW2.out.trans hE3⟩)
end Go.Proofs.YthpiobkghfdkkaaGreat

namespace Go.Proofs.YthpiobkghfdkkaaGreat
open Go.ChangeShapes Go.WideShapes Go.ChangeAt Go.RowKit
set_option linter.unusedVariables false

theorem Tryz.cellsChg : Tryz.prog.cellsOf 25 = 3 := by kernel_rfl
theorem Tryz.underlying30 : Tryz.prog.underlying 30 = some (.slice 25) := by kernel_rfl
theorem Tryz.cellsBoolC : Tryz.prog.cellsOf 4 = 1 := by kernel_rfl
theorem Tryz.underlyingBoolC : Tryz.prog.underlying 4 = some .bool := by kernel_rfl
section
variable {H : Type} {enc : TypeId × Value → H} {w : World} {base : Nat} {sp : Nat → Bool} {held : Bool}
set_option maxRecDepth 100000 in
theorem elem_chg {n : Nat} {cs : List Value} {x : DataW H × List MemPlace} (h : DataW.trod enc Tryz.prog w base sp held n 25 cs = some x) :
    ∃ y : CM × DataW H, cs = chc y.1 ∧ x.1 = y.2 ∧ Vs w y.1.A y.1.row.length y.1.cap y.1.row := by
  obtain ⟨xs, n', _, hx, hl, hlen, hg⟩ := DataW.trod_struct Tryz.underlying25 h
  rw [Tryz.cellsChg] at hl
  match cs, hl with
  | [c0, c1, c2], _ =>
    match xs, hlen with
    | [y0, y1, y2], _ =>
      have h0 : DataW.trod enc Tryz.prog w base sp held n' 9 (([c0, c1, c2].drop 0).take (Tryz.prog.cellsOf 9)) = some y0 := hg 0 _ rfl
      have h1 : DataW.trod enc Tryz.prog w base sp held n' 23 (([c0, c1, c2].drop 1).take (Tryz.prog.cellsOf 23)) = some y1 := hg 1 _ rfl
      have h2 : DataW.trod enc Tryz.prog w base sp held n' 4 (([c0, c1, c2].drop 2).take (Tryz.prog.cellsOf 4)) = some y2 := hg 2 _ rfl
      rw [Tryz.cellsStr] at h0
      rw [Tryz.cellsRow] at h1
      rw [Tryz.cellsBoolC] at h2
      obtain ⟨s, e0, _, _⟩ := DataW.trod_string Tryz.underlying9 h0
      obtain ⟨y, e1, _, hv, _⟩ := elem_row h1
      obtain ⟨b, e2, _⟩ := DataW.trod_bool Tryz.underlyingBoolC h2
      simp at e0 e1 e2
      subst e0; subst e1; subst e2
      exact ⟨(⟨s.data.toList, y.1.A, y.1.cap, y.1.l, b⟩, x.1), rfl, rfl, hv⟩
theorem open_chs {fuel : Nat} {A : Option Addr} {n cap : Nat} {x : DataW H × List MemPlace} (h : DataW.trod enc Tryz.prog w base sp held fuel 30 [.slice A n cap] = some x) :
    ∃ L : List CM, ChsIn w A n cap L := by
  obtain ⟨l, h1, h2, _⟩ := open_sl (α := CM × DataW H) (enc_ := fun y => chc y.1) Prod.snd (fun y => Vs w y.1.A y.1.row.length y.1.cap y.1.row) (show Tryz.prog.underlying 30 = some (.slice 25) by kernel_rfl) Tryz.cellsChg (fun _ => rfl) (by decide) (fun n cs x hx => elem_chg hx) h
  exact ⟨l.map Prod.fst, sl_fst h1, fun x hx => by
    obtain ⟨y, hy, rfl⟩ := List.mem_map.1 hx
    exact h2 y hy⟩
end
end Go.Proofs.YthpiobkghfdkkaaGreat
