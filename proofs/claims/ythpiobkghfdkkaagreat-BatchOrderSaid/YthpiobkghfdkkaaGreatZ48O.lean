/-
  Texts that belong together: The law's tables (chapter 16): the walk, without rows that are alike. Changes there and back, in plain words; the book's Put and Take. What the law knows (chapter 16). Two slices of changes (chapter 16's law BatchBack). The walk of the law BatchBack. Differences that are added: what BatchSums asks of the sums. The walk of the law BatchSums. Changes in another order: the same sums. The walk of the law BatchOrder. Lists of changes that came in.
-/
import Derived.Test.YthpiobkghfdkkaaGreatZ46O
import Derived.Test.YthpiobkghfdkkaaGreatZ47O
import Derived.Deep.RegionLaw
import Derived.Deep.DeepCutAuto
import Derived.Test.YthpiobkghfdkkaaGreatZ36O
namespace Go.Proofs.YthpiobkghfdkkaaGreat
open Go.RowKit
set_option linter.unusedVariables false

/-- Changes that came in. -/
structure ChsIn (w : World) (A : Option Addr) (n cap : Nat) (l : List CM) : Prop where
  sl : Sl 3 chc w A n cap l
  each : ∀ x ∈ l, Vs w x.A x.row.length x.cap x.row
theorem ChsIn.ev {w w' : World} {A : Option Addr} {n cap : Nat} {l : List CM} (h : ChsIn w A n cap l) (hE : Ev w w') : ChsIn w' A n cap l := ⟨h.sl.ev hE, fun t ht => (h.each t ht).ev hE⟩
theorem ChsIn.cell {w : World} {A : Option Addr} {n cap : Nat} {l : List CM} (h : ChsIn w A n cap l) {i : Nat} {x : CM} (hx : l[i]? = some x) : ∃ b off, A = some ⟨b, off, none⟩ ∧ b < w.heap.size ∧ w.cell? ⟨b, off + i * 3, none⟩ = some (.string ⟨x.tab.toArray⟩) ∧ w.cell? ⟨b, off + i * 3 + 1, none⟩ = some (.slice x.A x.row.length x.cap) ∧ w.cell? ⟨b, off + i * 3 + 2, none⟩ = some (.bool x.rem) := by
  have hi := (List.getElem?_eq_some_iff.1 hx).1
  have hl := h.sl.len
  obtain ⟨b, off, e, hlt, hc⟩ := h.sl.rd (by omega)
  exact ⟨b, off, e, hlt, hc i x hx 0 _ rfl, hc i x hx 1 _ rfl, hc i x hx 2 _ rfl⟩
def CM.bs (x : CM) : ByteArray := ⟨x.tab.toArray⟩
theorem tame_q (x : CM) (q : Bool) (hq : decide (x.bs.size % 2 = 0) = q) (w : World) (h : Vs w x.A x.row.length x.cap x.row) :
    Calls Tryz.prog 19 #[.agg #[.string x.bs, .slice x.A x.row.length x.cap, .bool x.rem]] w (TameOutA x.rem (cond q ⟨#[116]⟩ ⟨#[117]⟩) (tameX q x.row) w) := by
  cases q
  · exact tameA_u x.rem x.bs (by have := of_decide_eq_false hq; omega) x.row x.A x.row.length x.cap w h
  · exact tameA_t x.rem x.bs (of_decide_eq_true hq) x.row x.A x.row.length x.cap w h
theorem items_snoc (Z : List J) (z : J) : itemsOf (Z ++ [z]) = itemsOf Z ++ [z.2] := by simp [itemsOf]

/-- The items, once a box below is stored into. -/
theorem upd5 {w3 wr w4 : World} {A : Option Addr} {n c g i : Nat} {Z : List J} {v : Value} (h : MkSt w3 (.slice A n c) Z wr) (hE : Ev wr w4) (hg : g < w3.heap.size) : SetNew w3.heap.size (itemsOf Z) (w4.setCell ⟨g, i, none⟩ v) A n c :=
  ((h.ev hE).set_).but (K := [g]) (But.setCell _ _ (by simp)) (fun k hk => by rw [List.mem_singleton.1 hk]; exact hg)

/-- The tables are filled in. -/
theorem tabs_done {g m : Nat} {w w1 w3 wr w4 w6 : World} {SU ST : List I} {A4 A6 : Option Addr} {c4 c6 : Nat} (HEW : Ev w wr) (HG : w.heap.size < g ∧ w1.heap.size < g ∧ g < w3.heap.size) (H3 : Ev w3 wr) (E4 : Ev wr w4) (E6 : Ev (w4.setCell ⟨g, 2, none⟩ (.slice A4 SU.length c4)) w6)
    (HB : Bx 45 g #[.string ⟨#[117]⟩, .slice (some ⟨w.heap.size, 0, none⟩) 2 2, .slice A4 SU.length c4, .string ⟨#[116]⟩, .slice (some ⟨w1.heap.size, 0, none⟩) 3 3, .slice none 0 0] w6)
    (C1 : Cs w3 (some ⟨w.heap.size, 0, none⟩) 2 2 ucols) (C2 : Cs w3 (some ⟨w1.heap.size, 0, none⟩) 3 3 tcols)
    (hSU : SetNew wr.heap.size SU w4 A4 SU.length c4) (hST : SetNew (w4.setCell ⟨g, 2, none⟩ (.slice A4 SU.length c4)).heap.size ST w6 A6 ST.length c6) (sU : SOk false m SU) (sT : SOk true m ST) :
    ∃ (g' : Nat) (tU tT : TM), Ending.returned (.slice (some ⟨g, 0, none⟩) 2 2) = .returned (.slice (some ⟨g', 0, none⟩) 2 2) ∧ TsAt (w6.setCell ⟨g, 5, none⟩ (.slice A6 ST.length c6)) (some ⟨g', 0, none⟩) 2 2 [tU, tT] ∧ UtAt m tU tT ∧ Ev w (w6.setCell ⟨g, 5, none⟩ (.slice A6 ST.length c6)) := by
  have b5 : But [g] w4 (w4.setCell ⟨g, 2, none⟩ (.slice A4 SU.length c4)) := But.setCell _ _ (by simp)
  have b7 : But [g] w6 (w6.setCell ⟨g, 5, none⟩ (.slice A6 ST.length c6)) := But.setCell _ _ (by simp)
  have b47 : But [g] w4 (w6.setCell ⟨g, 5, none⟩ (.slice A6 ST.length c6)) := (b5.then (But.of_ev E6)).then b7
  have h1 := H3.size
  have h4 := E4.size
  have h5 := b5.size
  have cU := ((C1.ev H3).ev E4).but b47 fun ad ea => by
    injection ea with ea
    subst ea
    simp
    omega
  have cT := ((C2.ev H3).ev E4).but b47 fun ad ea => by
    injection ea with ea
    subst ea
    simp
    omega
  have rU := (hSU.but b47 fun k hk => by rw [List.mem_singleton.1 hk]; omega).in_
  have rT := (hST.but b7 fun k hk => by rw [List.mem_singleton.1 hk]; omega).in_
  refine ⟨g, ⟨[117], some ⟨w.heap.size, 0, none⟩, 2, ucols, A4, c4, SU⟩, ⟨[116], some ⟨w1.heap.size, 0, none⟩, 3, tcols, A6, c6, ST⟩, rfl, ⟨two_tabs (HB.set 5 (.slice A6 ST.length c6)), fun t ht => ?_⟩, ⟨⟨rfl, rfl⟩, ⟨rfl, rfl⟩, sU, sT⟩, ((But.of_ev (HEW.trans E4)).then b47).ev fun k hk => by rw [List.mem_singleton.1 hk]; omega⟩
  simp only [List.mem_cons, List.not_mem_nil, or_false] at ht
  rcases ht with rfl | rfl
  · exact ⟨cU, rU⟩
  · exact ⟨cT, rT⟩

set_option maxRecDepth 100000 in
set_option maxHeartbeats 2000000 in
theorem law16_tables {B : Option Addr} {n cap : Nat} {l : List CM} (w : World) (h : ChsIn w B n cap l) :
    Calls Tryz.prog 11 #[.int .i64 0, .slice B n cap] w fun e w' => ∃ (m : Nat) (g : Nat) (tU tT : TM), e = .returned (.slice (some ⟨g, 0, none⟩) 2 2) ∧ m ≤ n ∧ m ≤ 20 ∧ TsAt w' (some ⟨g, 0, none⟩) 2 2 [tU, tT] ∧ UtAt m tU tT ∧ Ev w w' := by
  have hmix : Tryz.prog.follows .mixedOrders = true := by kernel_rfl
  have hst := store_complex
  have hcl := h.sl.le
  have hcm := h.sl.max
  have HL := Lib.hid h.sl.len
  have H := Lib.hid h
  have HKT := Lib.hid (fun w1 => keep_t w1)
  have HKU := Lib.hid (fun w1 => keep_u w1)
  clear h
  go_enter Tryz.func11, Tryz.ntmps11
  go_wp2_with (first
    | ((with_reducible refine (HKU.out _).mono ?_); rintro r w1 ⟨rfl, hC, hE⟩; have HC1 := Lib.hid hC; have E1 := Lib.hid hE; clear hC hE)
    | ((with_reducible refine (HKT.out _).mono ?_); rintro r w2 ⟨rfl, hC, hE⟩; have HC2 := Lib.hid hC; have E2 := Lib.hid hE; clear hC hE; obtain ⟨w3, hw3, hE3, hB3⟩ : ∃ w3, w2.alloc (.cells #[.string ⟨#[117]⟩, .slice (some ⟨w.heap.size, 0, none⟩) 2 2, .slice none 0 0, .string ⟨#[116]⟩, .slice (some ⟨w1.heap.size, 0, none⟩) 3 3, .slice none 0 0] 45) = w3 ∧ Ev w2 w3 ∧ Bx 45 w2.heap.size #[.string ⟨#[117]⟩, .slice (some ⟨w.heap.size, 0, none⟩) 2 2, .slice none 0 0, .string ⟨#[116]⟩, .slice (some ⟨w1.heap.size, 0, none⟩) 3 3, .slice none 0 0] w3 := ⟨_, rfl, Ev.alloc _ _, Bx.new _ _ _⟩; have E3 := Lib.hid hE3; have HB3 := Lib.hid hB3; clear hE3 hB3))
  obtain ⟨g, hg⟩ : ∃ g, g = w2.heap.size := ⟨_, rfl⟩
  have EW : Hid (Ev w w3) := Lib.hid ((E1.out.trans E2.out).trans E3.out)
  rw [← hg] at HB3
  try rw [hw3]
  try rw [← hg]
  have HG : Hid (w.heap.size < g ∧ w1.heap.size < g ∧ g < w3.heap.size) := Lib.hid (by
    obtain ⟨b1, o1, e1, h1, _⟩ := HC1.out.rd (by decide)
    obtain ⟨b2, o2, e2, h2, _⟩ := HC2.out.rd (by decide)
    injection e1 with e1
    injection e1 with e1
    injection e2 with e2
    injection e2 with e2
    have h3 := HB3.out.lt
    have h4 := E2.out.size
    omega)
  have HC2 := Lib.hid (HC2.out.ev E3.out)
  have HC1 := Lib.hid ((HC1.out.ev E2.out).ev E3.out)
  clear hw3 hg
  go_loopw [6, 7, 8] (fun tv uv iv wr => ∃ (TA UA : Option Addr) (tn un tc uc k : Nat) (Zt Zu : List J), tv = .slice TA tn tc ∧ uv = .slice UA un uc ∧ iv = .int .i64 (k : Int) ∧ k ≤ n ∧ k ≤ 20 ∧ Hid (TwSt w3 (.slice TA tn tc) (.slice UA un uc) Zt Zu wr) ∧ Hid (Ones true (itemsOf Zt) ∧ Ones false (itemsOf Zu) ∧ tn + un = k)) (fun _ _ iv _ => n - (intOf iv).toNat)
  case atStart => exact ⟨none, none, 0, 0, 0, 0, 0, [], [], rfl, rfl, rfl, Nat.zero_le _, Nat.zero_le _, Lib.hid (TwSt.start _), Lib.hid ⟨(fun x hx => by cases hx), (fun x hx => by cases hx), rfl⟩⟩
  case round =>
    obtain ⟨TA, UA, tn, un, tc, uc, k, Zt, Zu, rfl, rfl, rfl, hk, hk20, HTW, HON⟩ := hrel
    by_cases hlt : k < n ∧ k < 20
    · obtain ⟨hlt, hl20⟩ := hlt
      obtain ⟨x, hx⟩ := H.out.sl.at hlt
      have HXR := Lib.hid (H.out.each x (List.mem_of_getElem? hx))
      obtain ⟨b, off, rfl, hb, c0, c1, c2⟩ := (H.out.ev (EW.out.trans HTW.out.ev)).cell hx
      have i1 : (0 : Int) ≤ (k : Int) := by omega
      have i2 : (k : Int) < (n : Int) := by omega
      have i3 : (k : Int) < 20 := by omega
      have hv0 : (⟨x.tab.toArray⟩ : ByteArray) = x.bs := rfl
      rw [hv0] at c0
      clear hx hv0
      cases hq : decide (x.bs.size % 2 = 0)
      · have HTM := Lib.hid (fun w1 (hE : Ev wr w1) => tame_q x false hq w1 (HXR.out.ev ((EW.out.trans HTW.out.ev).trans hE)))
        unfold TameOutA at HTM
        simp only [cond_false] at HTM
        clear hq
        go_upto_region 7 with (first
          | ((with_reducible refine (HTM.out _ (Ev.refl _)).mono ?_); rintro r wt ⟨TB, bk, bc, rfl, hV, hVb, hE⟩; have HV := Lib.hid hV; have HVB := Lib.hid hVb; have ET := Lib.hid hE; clear hV hVb hE))
        obtain ⟨wx, hwx, hEx, hX⟩ : ∃ wx, wt.alloc (.cells #[.string ⟨#[117]⟩, .slice TB bk bc, .bool x.rem] 25) = wx ∧ Ev wt wx ∧ Bx 25 wt.heap.size #[.string ⟨#[117]⟩, .slice TB bk bc, .bool x.rem] wx := ⟨_, rfl, Ev.alloc _ _, Bx.new _ _ _⟩
        rw [hwx]
        have HVX : Hid (Vs wx TB bk bc (tameX false x.row) ∧ ∀ ad, TB = some ad → w3.heap.size ≤ ad.block ∧ ad.block < wx.heap.size) := Lib.hid ⟨HV.out.ev hEx, fun ad ea => ⟨Nat.le_trans HTW.out.ev.size (HVB.out ad ea).1, Nat.lt_of_lt_of_le (HVB.out ad ea).2 hEx.size⟩⟩
        have EX := Lib.hid (ET.out.trans hEx)
        generalize wt.heap.size = bx at *
        obtain ⟨⟨x0, x1, x2⟩, _⟩ := hX.three
        have HAPP : ∃ A9 c9 w9, (Builtin.append_ #[40, 40] 40 #[.slice UA un uc, .slice (some ⟨wx.heap.size, 0, none⟩) 1 1]).run Tryz.prog (wx.alloc (.cells #[.slice TB bk bc, .complex .f64 4607182418800017408 0] 62)) = .ok (.slice A9 (un + 1) c9) w9 ∧ TwSt w3 (.slice TA tn tc) (.slice A9 (un + 1) c9) Zt (Zu ++ [((TB, bk, bc), (tameX false x.row, 1, 0))]) w9 := by
          have h := (HTW.out.up EX.out).app (y := ((TB, bk, bc), (tameX false x.row, 1, 0))) HVX.out.1 HVX.out.2 (fun e => by have := rightR_len (tameX_right false x.row); rw [show tameX false x.row = [] from e] at this; simp at this) (by have := HTW.out.u.sl.len; have := HON.out.2.2; omega)
          simp only [fl_1, fl_zero] at h
          exact h
        obtain ⟨A9, c9, w9, hr9, ht9⟩ := HAPP
        have HT9 := Lib.hid ht9
        clear ht9 hEx hX hwx
        go_wp2_with (first
          | (at_builtin; refine Lib.wpList_append_run _ rfl _ _ _ _ rfl _ _ rfl rfl _ _ hr9 ?_))
        go_roundw
        case rel => exact ⟨TA, A9, tn, un + 1, tc, c9, k + 1, Zt, Zu ++ [((TB, bk, bc), (tameX false x.row, 1, 0))], rfl, rfl, by go_num, by omega, by omega, HT9, Lib.hid ⟨HON.out.1, by rw [items_snoc]; exact HON.out.2.1.snoc x.row, by have := HON.out.2.2; omega⟩⟩
        case measure => simp [intOf]; omega
      · have HTM := Lib.hid (fun w1 (hE : Ev wr w1) => tame_q x true hq w1 (HXR.out.ev ((EW.out.trans HTW.out.ev).trans hE)))
        unfold TameOutA at HTM
        simp only [cond_true] at HTM
        clear hq
        go_upto_region 7 with (first
          | ((with_reducible refine (HTM.out _ (Ev.refl _)).mono ?_); rintro r wt ⟨TB, bk, bc, rfl, hV, hVb, hE⟩; have HV := Lib.hid hV; have HVB := Lib.hid hVb; have ET := Lib.hid hE; clear hV hVb hE))
        obtain ⟨wx, hwx, hEx, hX⟩ : ∃ wx, wt.alloc (.cells #[.string ⟨#[116]⟩, .slice TB bk bc, .bool x.rem] 25) = wx ∧ Ev wt wx ∧ Bx 25 wt.heap.size #[.string ⟨#[116]⟩, .slice TB bk bc, .bool x.rem] wx := ⟨_, rfl, Ev.alloc _ _, Bx.new _ _ _⟩
        rw [hwx]
        have HVX : Hid (Vs wx TB bk bc (tameX true x.row) ∧ ∀ ad, TB = some ad → w3.heap.size ≤ ad.block ∧ ad.block < wx.heap.size) := Lib.hid ⟨HV.out.ev hEx, fun ad ea => ⟨Nat.le_trans HTW.out.ev.size (HVB.out ad ea).1, Nat.lt_of_lt_of_le (HVB.out ad ea).2 hEx.size⟩⟩
        have EX := Lib.hid (ET.out.trans hEx)
        generalize wt.heap.size = bx at *
        obtain ⟨⟨x0, x1, x2⟩, _⟩ := hX.three
        have HAPP : ∃ A9 c9 w9, (Builtin.append_ #[40, 40] 40 #[.slice TA tn tc, .slice (some ⟨wx.heap.size, 0, none⟩) 1 1]).run Tryz.prog (wx.alloc (.cells #[.slice TB bk bc, .complex .f64 4607182418800017408 0] 62)) = .ok (.slice A9 (tn + 1) c9) w9 ∧ TwSt w3 (.slice UA un uc) (.slice A9 (tn + 1) c9) Zu (Zt ++ [((TB, bk, bc), (tameX true x.row, 1, 0))]) w9 := by
          have h := (HTW.out.swap.up EX.out).app (y := ((TB, bk, bc), (tameX true x.row, 1, 0))) HVX.out.1 HVX.out.2 (fun e => by have := rightR_len (tameX_right true x.row); rw [show tameX true x.row = [] from e] at this; simp at this) (by have := HTW.out.t.sl.len; have := HON.out.2.2; omega)
          simp only [fl_1, fl_zero] at h
          exact h
        obtain ⟨A9, c9, w9, hr9, ht9⟩ := HAPP
        have HT9 := Lib.hid ht9
        clear ht9 hEx hX hwx
        go_wp2_with (first
          | (at_builtin; refine Lib.wpList_append_run _ rfl _ _ _ _ rfl _ _ rfl rfl _ _ hr9 ?_))
        go_roundw
        case rel => exact ⟨A9, UA, tn + 1, un, c9, uc, k + 1, Zt ++ [((TB, bk, bc), (tameX true x.row, 1, 0))], Zu, rfl, rfl, by go_num, by omega, by omega, Lib.hid HT9.out.swap, Lib.hid ⟨by rw [items_snoc]; exact HON.out.1.snoc x.row, HON.out.2.1, by have := HON.out.2.2; omega⟩⟩
        case measure => simp [intOf]; omega
    · have HTL : Hid (tn ≤ 20 ∧ un ≤ 20) := Lib.hid (by have := HON.out.2.2; omega)
      have HTK : Hid (tn ≤ k ∧ un ≤ k) := Lib.hid (by have := HON.out.2.2; omega)
      have HKK : Hid (k ≤ n ∧ k ≤ 20) := Lib.hid ⟨hk, hk20⟩
      have HMT := Lib.hid (fun w1_ (hE : Ev wr w1_) => rf6_make (l := itemsOf Zt) w1_ ((HTW.out.t.ev hE).set_).in_ HON.out.1.addI (by have := HTL.out; omega))
      have HMU := Lib.hid (fun w1_ (hE : Ev wr w1_) => rf6_make (l := itemsOf Zu) w1_ ((HTW.out.u.ev hE).set_).in_ HON.out.2.1.addI (by have := HTL.out; omega))
      have HBW := Lib.hid (HB3.out.ev HTW.out.ev)
      by_cases hkn : k < n
      · have i2 : (k : Int) < (n : Int) := by omega
        have i3 : ¬ (k : Int) < 20 := by omega
        go_wp2_with (first
          | ((with_reducible refine (HMU.out _ (Ev.refl _)).mono ?_); rintro r w4 ⟨SU, A4, c4, rfl, hS, hP, hN, hE⟩; have HSU := Lib.hid hS; have HPU := Lib.hid (And.intro hP hN); have E4 := Lib.hid hE; have HB4 := Lib.hid (HBW.out.ev hE); clear hS hP hN hE; obtain ⟨f4, l4, e4⟩ : w4.frozen? ⟨g, 2, none⟩ = false ∧ g < w4.heap.size ∧ w4.cell? ⟨g, 2, none⟩ = some (.slice none 0 0) := ⟨HB4.out.frozen 2, HB4.out.lt, HB4.out.cell 2⟩; have HU5 := Lib.hid (upd5 (i := 2) (v := .slice A4 SU.length c4) HTW.out.t E4.out HG.out.2.2); have HMT5 := Lib.hid (rf6_make (l := itemsOf Zt) _ HU5.out.in_ HON.out.1.addI (by have := HTL.out; omega)); have HB5 := Lib.hid (HB4.out.set 2 (.slice A4 SU.length c4)))
          | ((with_reducible refine (HMT5.out).mono ?_); rintro r w6 ⟨ST, A6, c6, rfl, hS, hP, hN, hE⟩; have HST := Lib.hid hS; have HPT := Lib.hid (And.intro hP hN); have E6 := Lib.hid hE; have HB6 := Lib.hid (HB5.out.ev hE); clear hS hP hN hE; obtain ⟨f6, l6, e6⟩ : w6.frozen? ⟨g, 5, none⟩ = false ∧ g < w6.heap.size ∧ w6.cell? ⟨g, 5, none⟩ = some (.slice none 0 0) := ⟨HB6.out.frozen 5, HB6.out.lt, HB6.out.cell 5⟩))
        go_ret
        obtain ⟨g9, tU9, tT9, h91, h92, h93, h94⟩ := tabs_done (m := k) (HEW := EW.out.trans HTW.out.ev) HG.out HTW.out.ev E4.out E6.out HB6.out HC1.out HC2.out HSU.out HST.out (sok_of HPU.out.1 HON.out.2.1 HPU.out.2 (by rw [itemsOf_length, HTW.out.u.sl.len]; exact HTK.out.2)) (sok_of HPT.out.1 HON.out.1 HPT.out.2 (by rw [itemsOf_length, HTW.out.t.sl.len]; exact HTK.out.1))
        exact ⟨k, g9, tU9, tT9, h91, HKK.out.1, HKK.out.2, h92, h93, h94⟩
      · have i2 : ¬ (k : Int) < (n : Int) := by omega
        go_wp2_with (first
          | ((with_reducible refine (HMU.out _ (Ev.refl _)).mono ?_); rintro r w4 ⟨SU, A4, c4, rfl, hS, hP, hN, hE⟩; have HSU := Lib.hid hS; have HPU := Lib.hid (And.intro hP hN); have E4 := Lib.hid hE; have HB4 := Lib.hid (HBW.out.ev hE); clear hS hP hN hE; obtain ⟨f4, l4, e4⟩ : w4.frozen? ⟨g, 2, none⟩ = false ∧ g < w4.heap.size ∧ w4.cell? ⟨g, 2, none⟩ = some (.slice none 0 0) := ⟨HB4.out.frozen 2, HB4.out.lt, HB4.out.cell 2⟩; have HU5 := Lib.hid (upd5 (i := 2) (v := .slice A4 SU.length c4) HTW.out.t E4.out HG.out.2.2); have HMT5 := Lib.hid (rf6_make (l := itemsOf Zt) _ HU5.out.in_ HON.out.1.addI (by have := HTL.out; omega)); have HB5 := Lib.hid (HB4.out.set 2 (.slice A4 SU.length c4)))
          | ((with_reducible refine (HMT5.out).mono ?_); rintro r w6 ⟨ST, A6, c6, rfl, hS, hP, hN, hE⟩; have HST := Lib.hid hS; have HPT := Lib.hid (And.intro hP hN); have E6 := Lib.hid hE; have HB6 := Lib.hid (HB5.out.ev hE); clear hS hP hN hE; obtain ⟨f6, l6, e6⟩ : w6.frozen? ⟨g, 5, none⟩ = false ∧ g < w6.heap.size ∧ w6.cell? ⟨g, 5, none⟩ = some (.slice none 0 0) := ⟨HB6.out.frozen 5, HB6.out.lt, HB6.out.cell 5⟩))
        go_ret
        obtain ⟨g9, tU9, tT9, h91, h92, h93, h94⟩ := tabs_done (m := k) (HEW := EW.out.trans HTW.out.ev) HG.out HTW.out.ev E4.out E6.out HB6.out HC1.out HC2.out HSU.out HST.out (sok_of HPU.out.1 HON.out.2.1 HPU.out.2 (by rw [itemsOf_length, HTW.out.u.sl.len]; exact HTK.out.2)) (sok_of HPT.out.1 HON.out.1 HPT.out.2 (by rw [itemsOf_length, HTW.out.t.sl.len]; exact HTK.out.1))
        exact ⟨k, g9, tU9, tT9, h91, HKK.out.1, HKK.out.2, h92, h93, h94⟩
end Go.Proofs.YthpiobkghfdkkaaGreat

namespace Go.Proofs.YthpiobkghfdkkaaGreat
open Go.RowKit
set_option linter.unusedVariables false

theorem chS_cons (q : Bool) (x : CM) (l : List CM) (f : List V → Int) : chS q (x :: l) f = (if x.tab = nmT q then f x.row * oneE x.rem else 0) + chS q l f := by
  unfold chS
  by_cases h : x.tab = nmT q
  · rw [List.filter_cons_of_pos (by simpa using h), List.map_cons, List.sum_cons, if_pos h]
  · rw [List.filter_cons_of_neg (by simpa using h), if_neg h]
    omega
theorem chS_append (q : Bool) (f : List V → Int) : ∀ (l m : List CM), chS q (l ++ m) f = chS q l f + chS q m f
  | [], m => by simp [chS]
  | x :: l, m => by
    rw [List.cons_append, chS_cons, chS_cons, chS_append q f l m]
    omega
/-- The same change, added or removed. -/
def CM.re (b : Bool) (x : CM) : CM := { x with rem := b }
/-- A batch that is taken is applied. -/
theorem ApplyOut.good {m : Nat} {l : List CM} {tU tT : TM} {w : World} {e : Ending} {w' : World} (h : ApplyOut m l tU tT w e w') (h0 : 0 < l.length) (h8 : l.length ≤ 8)
    (hg : ∀ (k : Nat) (y : CM) (q : Bool) (tU' tT' : TM), l[k]? = some y → y.tab = nmT q → Behind m (l.take k) tU tT tU' tT' → whyC (rowsQ q tU' tT') y.row y.rem = 0) :
    Ev w w' ∧ ∃ (g cap : Nat) (tU' tT' : TM) (A : Option Addr) (n c : Nat) (Z : List DL) (dT dU : Option (List I)), e = .returned (.tuple #[.slice (some ⟨g, 0, none⟩) 2 cap, .slice A n c, .int .i64 0, .int .i64 0]) ∧ TabSt w.heap.size g cap [tU', tT'] w' ∧ Behind m l tU tT tU' tT' ∧ Sl 2 dlc w' A n c Z ∧ (∀ d ∈ Z, SetNew w.heap.size d.rows w' d.A d.rows.length d.cap) ∧ Z.map nr = dF dT dU ∧ DOk true l dT ∧ DOk false l dU := by
  refine ⟨h.1, ?_⟩
  have ht : takenN l.length = 0 := by unfold takenN; rw [if_neg (by omega), if_neg (by omega)]
  rcases h.2 with ⟨g, cap, tU', tT', A, n, c, Z, dT, dU, h1, _, _, h4⟩ | ⟨k, why, _, h2, h3 | ⟨_, q, y, tU', tT', h4, h5, h6, h7⟩⟩
  · exact ⟨g, cap, tU', tT', A, n, c, Z, dT, dU, h1, h4⟩
  · exact absurd (h3.1.symm.trans ht) h2
  · exact absurd (h7.trans (hg k y q tU' tT' h4 h5 h6)) h2
theorem UtAt.rows {m : Nat} {tU tT : TM} (h : UtAt m tU tT) (q : Bool) : SOk q m (rowsQ q tU tT) := by
  cases q
  · exact h.sU
  · exact h.sT
theorem SOk.tot {q : Bool} {m : Nat} {S : List I} (h : SOk q m S) : netS (fun _ => 1) S ≤ m := by
  rw [← absS_nn S fun x hx => by have := h.nn.adds h.z x hx; unfold netI; omega]
  have := h.z.small
  omega
/-- Rows are added. -/
theorem adds_taken {m : Nat} {L : List CM} {tU tT : TM} (hm : m + L.length ≤ 60) (k : Nat) (y : CM) (q : Bool) (tU' tT' : TM) (hy : (L.map (CM.re false))[k]? = some y) (hb : Behind m ((L.map (CM.re false)).take k) tU tT tU' tT') : whyC (rowsQ q tU' tT') y.row y.rem = 0 := by
  have h1 := (hb.ut.rows q).tot
  rw [List.length_take, List.length_map] at h1
  obtain ⟨x, _, rfl⟩ := List.mem_map.1 (List.mem_of_getElem? hy)
  unfold whyC
  show (if false = true then _ else _) = _
  rw [if_neg (by decide), if_neg (by omega)]
set_option maxRecDepth 100000 in
theorem keep_put {A : Option Addr} {n cap : Nat} (s : ByteArray) (w : World) : Calls Tryz.prog 9 #[.string s, .slice A n cap] w fun e w' => e = .returned (.agg #[.string s, .slice A n cap, .bool false]) ∧ Ev w w' := by
  go_enter Tryz.func9, Tryz.ntmps9
  go_wp2
  refine bodyPost_ret (results_cell1 rfl _ _ _ _ _ rfl (Bx.new 25 _ _) Tryz.underlying25 rfl Tryz.sizeChange) rfl ?_
  exact ⟨rfl, Ev.alloc _ _⟩
set_option maxRecDepth 100000 in
theorem keep_take {A : Option Addr} {n cap : Nat} (s : ByteArray) (w : World) : Calls Tryz.prog 12 #[.string s, .slice A n cap] w fun e w' => e = .returned (.agg #[.string s, .slice A n cap, .bool true]) ∧ Ev w w' := by
  go_enter Tryz.func12, Tryz.ntmps12
  go_wp2
  refine bodyPost_ret (results_cell1 rfl _ _ _ _ _ rfl (Bx.new 25 _ _) Tryz.underlying25 rfl Tryz.sizeChange) rfl ?_
  exact ⟨rfl, Ev.alloc _ _⟩

theorem sok_zero {q : Bool} {S : List I} (h : SOk q 0 S) : S = [] := by
  cases S with
  | nil => rfl
  | cons x S =>
    have h1 := h.nn.adds h.z x (List.mem_cons_self ..)
    have h2 := h.z.small
    rw [absS_cons] at h2
    unfold netI at h2
    omega
/-- The row (1, 1), once in and out of u. -/
def k11 : List V := ([1, 1] : List Int).map numV
theorem fits_k11 : fitsL ucols k11 = true := by kernel_rfl
theorem right_k11 : rightR k11 = true := by kernel_rfl
def kCh (A : Option Addr) (c : Nat) (rem : Bool) : CM := ⟨[117], A, c, k11, rem⟩
theorem kCh_ok (A : Option Addr) (c : Nat) (rem : Bool) : ChOk (kCh A c rem) := ⟨false, rfl, fits_k11, right_k11⟩
theorem kCh_u (A : Option Addr) (c : Nat) (rem : Bool) : (kCh A c rem).tab = nmT false := rfl
theorem kCh_t (A : Option Addr) (c : Nat) (rem : Bool) : (kCh A c rem).tab ≠ nmT true := by
  show ([117] : By) ≠ [116]
  decide
theorem nmT_117 {q : Bool} (h : ([117] : By) = nmT q) : q = false := by
  cases q
  · rfl
  · exact absurd h (by decide)
theorem known_one {A B : Option Addr} {c d : Nat} {tU tT : TM} {w w' : World} {e : Ending} (hU : UtAt 0 tU tT) (h : ApplyOut 0 [kCh A c false, kCh B d true] tU tT w e w') :
    Ev w w' ∧ ∃ (g cap : Nat) (b off k : Nat) (D : Option Addr) (dc : Nat), e = .returned (.tuple #[.slice (some ⟨g, 0, none⟩) 2 cap, .slice (some ⟨b, off, none⟩) 1 k, .int .i64 0, .int .i64 0]) ∧ 1 ≤ k ∧ k ≤ 9223372036854775807 ∧ b < w'.heap.size ∧ w'.cell? ⟨b, off, none⟩ = some (.string ⟨#[117]⟩) ∧ w'.cell? ⟨b, off + 1, none⟩ = some (.slice D 0 dc) := by
  obtain ⟨h1, g, cap, tU', tT', A', n, c', Z, dT, dU, rfl, _, _, hs, _, hz, hT, hUd⟩ := h.good (by simp) (by simp) (fun k y q tU' tT' hy hq hb => by
    match k, hy with
    | 0, hy =>
      obtain rfl := Option.some.inj hy
      have h1 := (hb.ut.rows q).tot
      unfold whyC
      show (if false = true then _ else _) = _
      rw [if_neg (by decide), if_neg (by simp at h1; omega)]
    | 1, hy =>
      obtain rfl := Option.some.inj hy
      obtain rfl := nmT_117 hq
      have h1 := hb.sum false (oneRow k11)
      have h2 := (hU.rows false).nn k11
      rw [cnt] at h2
      rw [show List.take 1 [kCh A c false, kCh B d true] = [kCh A c false] from rfl, chS_cons] at h1
      have h3 : (if (kCh A c false).tab = nmT false then oneRow k11 (kCh A c false).row * oneE (kCh A c false).rem else 0) = 1 := by
        rw [if_pos (kCh_u ..)]
        show oneRow k11 k11 * 1 = 1
        unfold oneRow
        simp
      rw [h3, show chS false [] (oneRow k11) = 0 from rfl] at h1
      unfold whyC
      show (if true = true then _ else _) = _
      rw [if_pos rfl, if_neg]
      show ¬ cnt k11 _ = 0
      rw [cnt]
      omega
    | _ + 2, hy => simp at hy)
  refine ⟨h1, ?_⟩
  have hdT : dT = none := by
    cases dT with
    | none => rfl
    | some s =>
      obtain ⟨_, _, x, hx, hx2⟩ := hT
      simp only [List.mem_cons, List.not_mem_nil, or_false] at hx
      rcases hx with rfl | rfl
      · exact absurd hx2 (kCh_t _ _ _)
      · exact absurd hx2 (kCh_t _ _ _)
  have hdU : dU = some [] := by
    cases dU with
    | none => exact absurd rfl (hUd (kCh A c false) (List.mem_cons_self ..))
    | some s =>
      obtain ⟨h1, h2, _⟩ := hUd
      congr 1
      refine h1.same (ZOk.nil_ 0) fun f => ?_
      rw [h2, chS_cons, chS_cons, netS_nil, if_pos (kCh_u ..), if_pos (kCh_u ..), show chS false [] f = 0 from rfl]
      show f k11 * 1 + (f k11 * (-1) + 0) = 0
      omega
  subst hdT; subst hdU
  match Z, hz with
  | [z], hz =>
    have hz1 : nr z = (([117] : By), ([] : List I)) := by simpa [dF] using hz
    unfold nr at hz1
    injection hz1 with e1 e2
    obtain rfl : n = 1 := by rw [← hs.len]; rfl
    obtain ⟨b, off, rfl, hlt, hc⟩ := hs.rd (by decide)
    have c0 := hc 0 z rfl 0 _ rfl
    have c1 := hc 0 z rfl 1 _ rfl
    rw [e1] at c0
    rw [e2] at c1
    have hle := hs.le
    have hmx := hs.max
    exact ⟨g, cap, b, off, c', z.A, z.cap, rfl, hle, hmx, hlt, by simpa using c0, by simpa using c1⟩
  | [], hz => simp [dF] at hz
  | _ :: _ :: _, hz => simp [dF] at hz
theorem known_two {A : Option Addr} {c : Nat} {tU tT : TM} {w w' : World} {e : Ending} (hU : UtAt 0 tU tT) (h : ApplyOut 0 [kCh A c true] tU tT w e w') : Ev w w' ∧ e = .returned (.tuple #[.slice none 0 0, .slice none 0 0, .int .i64 25, .int .i64 0]) := by
  refine ⟨h.1, ?_⟩
  have hrow : ∀ q, rowsQ q tU tT = [] := fun q => sok_zero (hU.rows q)
  have ht : takenN 1 = 0 := rfl
  rcases h.2 with ⟨g, cap, tU', tT', A', n, c', Z, dT, dU, _, _, _, _, hb, _⟩ | ⟨k, why, rfl, h2, h3 | ⟨_, q, y, tU', tT', h4, h5, h6, h7⟩⟩
  · have h1 := hb.sum false (oneRow k11)
    have h2 := (hb.ut.rows false).nn k11
    rw [cnt] at h2
    rw [hrow, netS_nil, chS_cons, if_pos (kCh_u ..), show chS false [] (oneRow k11) = 0 from rfl] at h1
    have h3 : oneRow k11 (kCh A c true).row * oneE (kCh A c true).rem = -1 := by
      show oneRow k11 k11 * (-1) = -1
      unfold oneRow
      simp
    omega
  · exact absurd (h3.1.symm.trans ht) h2
  · match k, h4 with
    | 0, h4 =>
      obtain rfl := Option.some.inj h4
      have h8 : why = 25 := by
        rw [h7] at h2 ⊢
        unfold whyC at h2 ⊢
        split at h2
        · rename_i h9
          rw [if_pos h9]
          split at h2
          · rename_i h8
            rw [if_pos h8]
          · exact absurd rfl h2
        · rename_i hn
          exact absurd rfl hn
      rw [h8]
      rfl
    | _ + 1, h4 => simp at h4
end Go.Proofs.YthpiobkghfdkkaaGreat

namespace Go.Proofs.YthpiobkghfdkkaaGreat
open Go.RowKit
set_option linter.unusedVariables false

theorem chs_nil (w : World) : ChsIn w none 0 0 [] := ⟨⟨rfl, Nat.le_refl _, by decide, (fun _ => ⟨rfl, rfl⟩), (fun h => absurd h (by decide))⟩, (fun x hx => by cases hx)⟩
theorem nums11 (w : World) : Calls Tryz.prog 10 #[.slice (some ⟨w.heap.size, 0, none⟩) 2 2] (w.alloc (.cells #[.int .i64 1, .int .i64 1] 2)) fun e w' => ∃ A cap, e = .returned (.slice A 2 cap) ∧ NumRow [1, 1] w' A 2 cap ∧ Ev w w' :=
  (nums_row [1, 1] 2 rfl (by decide) (by decide) w _ rfl).mono fun e w' ⟨A, m, cap, he, hn, hE⟩ => by
    obtain rfl : m = 2 := by rw [← hn.1.len]; rfl
    exact ⟨A, cap, he, hn, hE⟩
theorem chs_two {A B : Option Addr} {c d : Nat} {w : World} (h : NumRow [1, 1] w A 2 c) (h' : NumRow [1, 1] w B 2 d) : ChsAt (w.alloc (.cells #[.string ⟨#[117]⟩, .slice A 2 c, .bool false, .string ⟨#[117]⟩, .slice B 2 d, .bool true] 25)) (some ⟨w.heap.size, 0, none⟩) 2 2 [kCh A c false, kCh B d true] := by
  refine ⟨Sl.made (enc := chc) (fun _ => rfl) [kCh A c false, kCh B d true] 2 rfl (by decide) w _ _ rfl, fun x hx => ?_⟩
  simp only [List.mem_cons, List.not_mem_nil, or_false] at hx
  rcases hx with rfl | rfl
  · exact CmAt.ev ⟨h.1, h.2⟩ (Ev.alloc _ _)
  · exact CmAt.ev ⟨h'.1, h'.2⟩ (Ev.alloc _ _)
theorem chs_one {A : Option Addr} {c : Nat} {w : World} (h : NumRow [1, 1] w A 2 c) : ChsAt (w.alloc (.cells #[.string ⟨#[117]⟩, .slice A 2 c, .bool true] 25)) (some ⟨w.heap.size, 0, none⟩) 1 1 [kCh A c true] := by
  refine ⟨Sl.made (enc := chc) (fun _ => rfl) [kCh A c true] 1 rfl (by decide) w _ _ rfl, fun x hx => ?_⟩
  rw [List.mem_singleton.1 hx]
  exact CmAt.ev ⟨h.1, h.2⟩ (Ev.alloc _ _)

set_option maxRecDepth 100000 in
set_option maxHeartbeats 2000000 in
theorem law16_known (w : World) : Calls Tryz.prog 17 #[] w fun e w' => e = .returned (.bool true) ∧ Ev w w' := by
  have hmix : Tryz.prog.follows .mixedOrders = true := by kernel_rfl
  have HTB := Lib.hid (law16_tables w (chs_nil w))
  have HNM := Lib.hid (fun w1 => nums11 w1)
  have HPU := Lib.hid (fun (A : Option Addr) (n c : Nat) (s : ByteArray) w1 => keep_put (A := A) (n := n) (cap := c) s w1)
  have HTA := Lib.hid (fun (A : Option Addr) (n c : Nat) (s : ByteArray) w1 => keep_take (A := A) (n := n) (cap := c) s w1)
  go_enter Tryz.func17, Tryz.ntmps17
  go_wp2_with (first
    | ((with_reducible refine (HTB.out).mono ?_); rintro r w1 ⟨m, g, tU, tT, rfl, hm, _, hts, hut, hE⟩; obtain rfl := Nat.le_zero.1 hm; have HTS := Lib.hid hts; have HUT := Lib.hid hut; have E1 := Lib.hid hE; clear hm hts hut hE)
    | ((with_reducible refine (HNM.out _).mono ?_); rintro r w2 ⟨A2, c2, rfl, hn, hE⟩; have HN2 := Lib.hid hn; have E2 := Lib.hid (E1.out.trans hE); have F2 := Lib.hid hE; clear hn hE)
    | ((with_reducible refine (HPU.out _ _ _ _ _).mono ?_); rintro r w3 ⟨rfl, hE⟩; have E3 := Lib.hid (E2.out.trans hE); have F3 := Lib.hid hE; clear hE)
    | ((with_reducible refine (HNM.out _).mono ?_); rintro r w4 ⟨A4, c4, rfl, hn, hE⟩; have HN4 := Lib.hid hn; have E4 := Lib.hid (E3.out.trans hE); have F4 := Lib.hid (F3.out.trans hE); clear hn hE)
    | ((with_reducible refine (HTA.out _ _ _ _ _).mono ?_); rintro r w5 ⟨rfl, hE⟩; have E5 := Lib.hid (E4.out.trans hE); have F5 := Lib.hid (F4.out.trans hE); have HA1 := Lib.hid (bt_Apply (w5.alloc (.cells #[.string ⟨#[117]⟩, .slice A2 2 c2, .bool false, .string ⟨#[117]⟩, .slice A4 2 c4, .bool true] 25)) (HTS.out.ev ((F2.out.trans F5.out).trans (Ev.alloc _ _))) HUT.out (by decide) (chs_two (HN2.out.ev F5.out) (HN4.out.ev hE)) (fun y hy => by
        simp only [List.mem_cons, List.not_mem_nil, or_false] at hy
        rcases hy with rfl | rfl
        · exact kCh_ok _ _ _
        · exact kCh_ok _ _ _) (by decide)); clear hE)
    | ((with_reducible refine (HA1.out).mono ?_); intro r w6 hap; obtain ⟨hE, g6, cap6, b6, off6, k6, D6, dc6, rfl, hk6, hk6m, hb6, d0_, d1_⟩ := known_one HUT.out hap; have E6 := Lib.hid ((E5.out.trans (Ev.alloc _ _)).trans hE); have F6 := Lib.hid ((F5.out.trans (Ev.alloc _ _)).trans hE); clear hE hap)
    | ((with_reducible refine (HNM.out _).mono ?_); rintro r w7 ⟨A7, c7, rfl, hn, hE⟩; have HN7 := Lib.hid hn; have E7 := Lib.hid (E6.out.trans hE); have F7 := Lib.hid hE; clear hn hE)
    | ((with_reducible refine (HTA.out _ _ _ _ _).mono ?_); rintro r w8 ⟨rfl, hE⟩; have E8 := Lib.hid (E7.out.trans hE); have F8 := Lib.hid (F7.out.trans hE); have HA2 := Lib.hid (bt_Apply (w8.alloc (.cells #[.string ⟨#[117]⟩, .slice A7 2 c7, .bool true] 25)) (HTS.out.ev (((F2.out.trans F6.out).trans F8.out).trans (Ev.alloc _ _))) HUT.out (by decide) (chs_one (HN7.out.ev hE)) (fun y hy => by
        rw [List.mem_singleton.1 hy]
        exact kCh_ok _ _ _) (by decide)); clear hE)
    | ((with_reducible refine (HA2.out).mono ?_); intro r w9 hap; obtain ⟨hE, rfl⟩ := known_two HUT.out hap; have E9 := Lib.hid ((E8.out.trans (Ev.alloc _ _)).trans hE); have F9 := Lib.hid ((F8.out.trans (Ev.alloc _ _)).trans hE); clear hE hap; have d0 := (F9.out.cell (p := ⟨b6, off6, none⟩) hb6).trans d0_; have d1 := (F9.out.cell (p := ⟨b6, off6 + 1, none⟩) hb6).trans d1_; clear d0_ d1_))
  go_ret
  exact ⟨rfl, E9.out⟩
end Go.Proofs.YthpiobkghfdkkaaGreat

namespace Go.Proofs.YthpiobkghfdkkaaGreat
open Go.RowKit
set_option linter.unusedVariables false

/-- The cells of a change are no whole number. -/
def PvC (u : Value) : Prop := (∃ s, u = .string s) ∨ (∃ A n c, u = .slice A n c) ∨ ∃ b, u = .bool b
theorem pvc_c (x : CM) : ∀ u ∈ chc x, PvC u := fun u hu => by
  simp [chc] at hu
  rcases hu with rfl | rfl | rfl
  · exact .inl ⟨_, rfl⟩
  · exact .inr (.inl ⟨_, _, _, rfl⟩)
  · exact .inr (.inr ⟨_, rfl⟩)
theorem pvc_zero : ∀ u ∈ (Value.agg #[.string ⟨#[]⟩, .slice none 0 0, .bool false]).cells.toList, PvC u := fun u hu => by
  simp [Value.cells] at hu
  rcases hu with rfl | rfl | rfl
  · exact .inl ⟨_, rfl⟩
  · exact .inr (.inl ⟨_, _, _, rfl⟩)
  · exact .inr (.inr ⟨_, rfl⟩)
theorem pvc_int (a : Int) : ¬ PvC (.int .i64 a) := fun h => by
  rcases h with ⟨s, e⟩ | ⟨A, n, c, e⟩ | ⟨b, e⟩ <;> cases e
theorem Tryz.underlying_changes : Tryz.prog.underlying 30 = some (.slice 25) := by kernel_rfl
theorem Tryz.infoChangeC : (Tryz.prog.info? 25).map (fun i => (i.zero, i.size, i.bytes)) = some (some (.agg #[.string ⟨#[]⟩, .slice none 0 0, .bool false]), 3, 48) := by kernel_rfl
theorem vs_pastC {wr wq : World} {base : Nat} {v : Value} {Z : List CM} (hO : Ow 25 3 chc base wr v Z) (hp : OwP PvC wr v) (hb : But (foot v) wr wq) {A : Option Addr} {n c : Nat} {r : List V} (h : Vs wr A n c r) : Vs wq A n c r := by
  cases hv : v.ownBlock with
  | none => exact h.ev (hb.ev fun g hg => by rw [mem_foot, hv] at hg; cases hg)
  | some g =>
    have hf : foot v = [g] := by unfold foot; rw [hv]; rfl
    rw [hf] at hb
    exact h.past hb fun x hx => ⟨0, .int .i64 x.1, rfl, fun o hc => pvc_int _ (own_all hO hp hv hc)⟩
/-- Changes in a slice of one's own, their rows in memory of their own. -/
structure ChSt (w : World) (v : Value) (Z : List CM) (wr : World) : Prop where
  own : Ow 25 3 chc w.heap.size wr v Z
  pv : OwP PvC wr v
  rows : ∀ y ∈ Z, Vs wr y.A y.row.length y.cap y.row ∧ ∀ ad, y.A = some ad → w.heap.size ≤ ad.block ∧ ad.block < wr.heap.size
theorem ChSt.start (w wr : World) : ChSt w (.slice none 0 0) [] wr := ⟨Ow.nil_ _, OwP.none_ _ _ _ _, (fun z hz => by cases hz)⟩
theorem ChSt.ev {w wr wq : World} {v : Value} {Z : List CM} (h : ChSt w v Z wr) (hE : Ev wr wq) : ChSt w v Z wq := ⟨h.own.ev hE, h.pv.ev h.own hE, fun z hz => ⟨(h.rows z hz).1.ev hE, fun ad ea => ⟨((h.rows z hz).2 ad ea).1, Nat.lt_of_lt_of_le ((h.rows z hz).2 ad ea).2 hE.size⟩⟩⟩
theorem ChSt.high {w wr : World} {v : Value} {Z : List CM} (h : ChSt w v Z wr) : ∀ k ∈ foot v, w.heap.size ≤ k ∧ k < wr.heap.size := fun k hk => h.own.lt (mem_foot.1 hk)
theorem ChSt.sl {w wr : World} {A : Option Addr} {n c : Nat} {Z : List CM} (h : ChSt w (.slice A n c) Z wr) : Sl 3 chc wr A n c Z := by
  obtain ⟨A1, c1, e, hS, _⟩ := h.own.form encCh
  injection e with e1 e2 e3
  subst e1; subst e2; subst e3
  exact hS
theorem ChSt.chs {w wr : World} {A : Option Addr} {n c : Nat} {Z : List CM} (h : ChSt w (.slice A n c) Z wr) : ChsAt wr A n c Z := ⟨h.sl, fun x hx => ⟨(h.rows x hx).1, fun ad ea => ((h.rows x hx).2 ad ea).2⟩⟩
theorem ChSt.but {w wr wq : World} {v vo : Value} {Z Zo : List CM} (h : ChSt w v Z wr) (ho : ChSt w vo Zo wr) (hb : But (foot vo) wr wq) (hd : ∀ g ∈ foot v, g ∉ foot vo) : ChSt w v Z wq := by
  refine ⟨h.own.but hb fun g hg => hd g (mem_foot.2 hg), fun g hg cs T q hc u hu => ?_, fun z hz => ⟨vs_pastC ho.own ho.pv hb (h.rows z hz).1, fun ad ea => ⟨((h.rows z hz).2 ad ea).1, Nat.lt_of_lt_of_le ((h.rows z hz).2 ad ea).2 hb.size⟩⟩⟩
  have h1 := (h.own.lt hg).2
  exact h.pv g hg cs T q (by rw [← hb.block g h1 (hd g (mem_foot.2 hg))]; exact hc) u hu
theorem ChSt.snoc_ {w wq w9 : World} {v v9 : Value} {Z : List CM} {y : CM} (h : ChSt w v Z wq) (h3 : Vs wq y.A y.row.length y.cap y.row) (h4 : ∀ ad, y.A = some ad → w.heap.size ≤ ad.block ∧ ad.block < wq.heap.size)
    (hA : AppSt 25 3 chc w.heap.size wq v (Z ++ [y]) v9 w9) (hP : OwP PvC w9 v9) : ChSt w v9 (Z ++ [y]) w9 := by
  refine ⟨hA.1, hP, fun z hz => ?_⟩
  rcases List.mem_append.1 hz with hz | hz
  · exact ⟨vs_pastC h.own h.pv hA.2.1 (h.rows z hz).1, fun ad ea => ⟨((h.rows z hz).2 ad ea).1, Nat.lt_of_lt_of_le ((h.rows z hz).2 ad ea).2 hA.2.1.size⟩⟩
  · rw [List.mem_singleton.1 hz]
    exact ⟨vs_pastC h.own h.pv hA.2.1 h3, fun ad ea => ⟨(h4 ad ea).1, Nat.lt_of_lt_of_le (h4 ad ea).2 hA.2.1.size⟩⟩
/-- Two such slices. -/
structure TcSt (w1 : World) (tv uv : Value) (Zt Zu : List CM) (wr : World) : Prop where
  t : ChSt w1 tv Zt wr
  u : ChSt w1 uv Zu wr
  apart : ∀ g ∈ foot tv, g ∉ foot uv
  ev : Ev w1 wr
theorem TcSt.swap {w1 wr : World} {tv uv : Value} {Zt Zu : List CM} (h : TcSt w1 tv uv Zt Zu wr) : TcSt w1 uv tv Zu Zt wr := ⟨h.u, h.t, fun g h1 h2 => h.apart g h2 h1, h.ev⟩
theorem TcSt.up {w1 wr wq : World} {tv uv : Value} {Zt Zu : List CM} (h : TcSt w1 tv uv Zt Zu wr) (hE : Ev wr wq) : TcSt w1 tv uv Zt Zu wq := ⟨h.t.ev hE, h.u.ev hE, h.apart, h.ev.trans hE⟩
theorem TcSt.start (w : World) : TcSt w (.slice none 0 0) (.slice none 0 0) [] [] w := ⟨ChSt.start w w, ChSt.start w w, (fun g hg => by simp [foot, Value.ownBlock] at hg), Ev.refl w⟩
theorem TcSt.app {w1 wq : World} {tv : Value} {A : Option Addr} {n c : Nat} {Zt Zu : List CM} {y : CM} (h : TcSt w1 tv (.slice A n c) Zt Zu wq) (h3 : Vs wq y.A y.row.length y.cap y.row) (h4 : ∀ ad, y.A = some ad → w1.heap.size ≤ ad.block ∧ ad.block < wq.heap.size) (hn : Zu.length < 1000000) :
    ∃ A' c' w', (Builtin.append_ #[30, 30] 30 #[.slice A n c, .slice (some ⟨wq.heap.size, 0, none⟩) 1 1]).run Tryz.prog (wq.alloc (.cells #[.string ⟨y.tab.toArray⟩, .slice y.A y.row.length y.cap, .bool y.rem] 25)) = .ok (.slice A' (n + 1) c') w' ∧ TcSt w1 tv (.slice A' (n + 1) c') Zt (Zu ++ [y]) w' ∧ But (foot (.slice A n c)) wq w' ∧ ∀ g ∈ foot (.slice A' (n + 1) c'), g ∈ foot (.slice A n c) ∨ wq.heap.size ≤ g := by
  have hl : Zu.length = n := h.u.sl.len
  have hE1 := Ev.alloc wq (.cells #[.string ⟨y.tab.toArray⟩, .slice y.A y.row.length y.cap, .bool y.rem] 25)
  have h1 := h.up hE1
  obtain ⟨v', w', hr, hA, hP⟩ := run_append_owPm (P := Tryz.prog) PvC encCh 30 30 Tryz.underlying_changes Tryz.infoChangeC rfl h1.u.own (some ⟨wq.heap.size, 0, none⟩) 1 1 [y] (Sl.one (et := 25) encCh wq y #[.string ⟨y.tab.toArray⟩, .slice y.A y.row.length y.cap, .bool y.rem] rfl) (by omega) (by simp; omega) (by simp; omega) h1.ev.size pvc_zero (fun z _ => pvc_c z) h1.u.pv
  have h2 := h1.u.snoc_ (h3.ev hE1) (fun ad ea => ⟨(h4 ad ea).1, Nat.lt_of_lt_of_le (h4 ad ea).2 hE1.size⟩) hA hP
  have h5 := h1.t.but h1.u hA.2.1 h1.apart
  have h6 : ∀ g ∈ foot tv, g ∉ foot v' := fun g hg hm => by
    rcases hA.2.2 g (mem_foot.1 hm) with h7 | h7
    · exact h1.apart g hg (mem_foot.2 h7)
    · have := (h1.t.high g hg).2
      omega
  have h8 : Ev w1 w' := ((But.of_ev h1.ev).then hA.2.1).ev fun g hg => (h1.u.high g hg).1
  have h10 : ∀ g ∈ foot v', g ∈ foot (.slice A n c) ∨ wq.heap.size ≤ g := fun g hg => (hA.2.2 g (mem_foot.1 hg)).imp (fun e => mem_foot.2 e) (fun e => Nat.le_trans hE1.size e)
  have h9 := (But.of_ev (K := foot (.slice A n c)) hE1).then hA.2.1
  obtain ⟨A', c', rfl, _⟩ := h2.own.form encCh
  rw [List.length_append, hl] at hr h2 h6 h10
  exact ⟨A', c', w', hr, ⟨h5, h2, h6, h8⟩, h9, h10⟩
end Go.Proofs.YthpiobkghfdkkaaGreat

namespace Go.Proofs.YthpiobkghfdkkaaGreat
open Go.RowKit
set_option linter.unusedVariables false

end Go.Proofs.YthpiobkghfdkkaaGreat

namespace Go.Proofs.YthpiobkghfdkkaaGreat
open Go.RowKit
set_option linter.unusedVariables false
set_option maxRecDepth 100000

theorem dF_each {Z : List DL} {dT dU : Option (List I)} {l : List CM} (h : Z.map nr = dF dT dU) (hT : DOk true l dT) (hU : DOk false l dU) {k : Nat} {d : DL} (hd : Z[k]? = some d) : (∃ b, d.name = nmT b) ∧ ZOk l.length d.rows ∧ k < 2 := by
  rcases dF_cases h with ⟨rfl, rfl, rfl⟩ | ⟨s, e, rfl, rfl, rfl, hn, hr⟩ | ⟨s, e, rfl, rfl, rfl, hn, hr⟩ | ⟨s, s', e, e', rfl, rfl, rfl, hn, hr, hn', hr'⟩
  · simp at hd
  · match k, hd with
    | 0, hd => simp at hd; subst hd; exact ⟨⟨true, hn⟩, by rw [hr]; exact hT.1, by omega⟩
    | k + 1, hd => simp at hd
  · match k, hd with
    | 0, hd => simp at hd; subst hd; exact ⟨⟨false, hn⟩, by rw [hr]; exact hU.1, by omega⟩
    | k + 1, hd => simp at hd
  · match k, hd with
    | 0, hd => simp at hd; subst hd; exact ⟨⟨true, hn⟩, by rw [hr]; exact hT.1, by omega⟩
    | 1, hd => simp at hd; subst hd; exact ⟨⟨false, hn'⟩, by rw [hr']; exact hU.1, by omega⟩
    | k + 2, hd => simp at hd

end Go.Proofs.YthpiobkghfdkkaaGreat

namespace Go.Proofs.YthpiobkghfdkkaaGreat
open Go.RowKit
set_option linter.unusedVariables false

end Go.Proofs.YthpiobkghfdkkaaGreat

namespace Go.Proofs.YthpiobkghfdkkaaGreat
open Go.RowKit
set_option linter.unusedVariables false
set_option maxRecDepth 100000

theorem chS_reverse (q : Bool) (f : List V → Int) : ∀ l : List CM, chS q l.reverse f = chS q l f
  | [] => rfl
  | x :: l => by
    rw [List.reverse_cons, chS_append, chS_cons, chS_reverse q f l, chS_cons]
    have : chS q [] f = 0 := rfl
    omega
theorem DOk.same {q : Bool} {l l' : List CM} {d d' : Option (List I)} (h : DOk q l d) (h' : DOk q l' d') (hm : ∀ x, x ∈ l ↔ x ∈ l') (hs : ∀ f, chS q l f = chS q l' f) : d = d' := by
  cases d with
  | none =>
    cases d' with
    | none => rfl
    | some s =>
      obtain ⟨x, hx, hn⟩ := h'.2.2
      exact absurd hn (h x ((hm x).2 hx))
  | some s =>
    cases d' with
    | none =>
      obtain ⟨x, hx, hn⟩ := h.2.2
      exact absurd hn (h' x ((hm x).1 hx))
    | some s' => rw [h.1.same h'.1 fun f => by rw [h.2.1 f, h'.2.1 f, hs f]]
/-- A slice of changes, and one change more whose box was turned to 'added'. -/
theorem ch_app_box {w1 wr wt : World} {SA : Option Addr} {k sc : Nat} {Z : List CM} (h : TcSt w1 (.slice none 0 0) (.slice SA k sc) [] Z wr) (hE : Ev wr wt) (y : CM) (hy : Vs wt y.A y.row.length y.cap y.row) (hlow : ∀ ad, y.A = some ad → wr.heap.size ≤ ad.block ∧ ad.block < wt.heap.size) (hn : Z.length < 1000000) (r0 : Bool) (wx : World) (hwx : wx = wt.alloc (.cells #[.string ⟨y.tab.toArray⟩, .slice y.A y.row.length y.cap, .bool r0] 25)) :
    Bx 25 wt.heap.size #[.string ⟨y.tab.toArray⟩, .slice y.A y.row.length y.cap, .bool r0] wx ∧
    ∃ SA' sc' w9, (Builtin.append_ #[30, 30] 30 #[.slice SA k sc, .slice (some ⟨(wx.setCell ⟨wt.heap.size, 2, none⟩ (.bool false)).heap.size, 0, none⟩) 1 1]).run Tryz.prog ((wx.setCell ⟨wt.heap.size, 2, none⟩ (.bool false)).alloc (.cells #[.string ⟨y.tab.toArray⟩, .slice y.A y.row.length y.cap, .bool false] 25)) = .ok (.slice SA' (k + 1) sc') w9 ∧
      TcSt w1 (.slice none 0 0) (.slice SA' (k + 1) sc') [] (Z ++ [CM.re false y]) w9 := by
  have hX : Bx 25 wt.heap.size #[.string ⟨y.tab.toArray⟩, .slice y.A y.row.length y.cap, .bool r0] wx := hwx ▸ Bx.new _ _ _
  have hE1 : Ev wt wx := hwx ▸ Ev.alloc _ _
  have b1 : But [wt.heap.size] wx (wx.setCell ⟨wt.heap.size, 2, none⟩ (.bool false)) := But.setCell _ _ (by simp)
  have ht1 : Ev wt (wx.setCell ⟨wt.heap.size, 2, none⟩ (.bool false)) := ((But.of_ev hE1).then b1).ev fun g hg => by rw [List.mem_singleton.1 hg]; exact Nat.le_refl _
  obtain ⟨SA', sc', w9, hr9, h9, _, _⟩ := (h.up (hE.trans ht1)).app (y := CM.re false y) (hy.ev ht1) (fun ad ea => ⟨Nat.le_trans h.ev.size ((hlow ad ea).1), Nat.lt_of_lt_of_le (hlow ad ea).2 ht1.size⟩) hn
  exact ⟨hX, SA', sc', w9, hr9, h9⟩
theorem take_rev {Z : List CM} {d : Nat} {y : CM} (hd : d < Z.length) (hy : Z[Z.length - 1 - d]? = some y) : Z.reverse.take (d + 1) = Z.reverse.take d ++ [y] := by
  have h : Z.reverse[d]? = some y := by rw [List.getElem?_reverse hd, hy]
  rw [List.take_add_one, h]; rfl
theorem chs_take {w : World} {A : Option Addr} {n cap : Nat} {l : List CM} (h : ChsAt w A n cap l) {c : Nat} (hc : c ≤ n) : ChsAt w A c cap (l.take c) := ⟨h.sl.to c hc, fun x hx => h.each x (List.mem_of_mem_take hx)⟩
theorem chs_drop {w : World} {b off n cap : Nat} {l : List CM} (h : ChsAt w (some ⟨b, off, none⟩) n cap l) {c : Nat} (hc : c < n) (hcap : cap ≠ c) : ChsAt w (some ⟨b, off + c * 3, none⟩) (n - c) (cap - c) (l.drop c) := by
  have hle := h.sl.le
  refine ⟨⟨by rw [List.length_drop, h.sl.len], by omega, by have := h.sl.max; omega, (fun e => by cases e), fun h0 => ?_⟩, fun x hx => h.each x (List.mem_of_mem_drop hx)⟩
  obtain ⟨b', o', e, hlt, hcl⟩ := h.sl.rd (by omega)
  simp only [Option.some.injEq, Addr.mk.injEq, and_true] at e
  obtain ⟨rfl, rfl⟩ := e
  refine ⟨b, off + c * 3, rfl, hlt, fun i x hx j u hu => ?_⟩
  rw [List.getElem?_drop] at hx
  have := hcl (c + i) x hx j u hu
  rw [show off + c * 3 + i * 3 + j = off + (c + i) * 3 + j by omega]
  exact this
theorem same_z {w3 : World} {A B : Option Addr} {c d m : Nat} {S T : List I} (w4 : World) (h : SetIn S w3 A S.length c) (h' : SetIn T w3 B T.length d) (e : S = T) (hE : Ev w3 w4) (hz : ZOk m T) : Calls Tryz.prog 22 #[.slice A S.length c, .slice B T.length d] w4 (Yes w4) := by
  subst e
  exact zset_same w4 (h.ev hE) (h'.ev hE) hz.parts hz.set hz.right
/-- What a batch of added rows leaves. -/
structure GoodAt (m : Nat) (l : List CM) (tU tT : TM) (w : World) (g cap : Nat) (tU' tT' : TM) (A : Option Addr) (n c : Nat) (Zd : List DL) (dT dU : Option (List I)) (w' : World) : Prop where
  ts : TsAt w' (some ⟨g, 0, none⟩) 2 cap [tU', tT']
  bh : Behind m l tU tT tU' tT'
  sl : Sl 2 dlc w' A n c Zd
  ds : ∀ d ∈ Zd, SetIn d.rows w' d.A d.rows.length d.cap
  nr : Zd.map nr = dF dT dU
  dt : DOk true l dT
  du : DOk false l dU
  ev : Ev w w'
theorem GoodAt.up {m : Nat} {l : List CM} {tU tT : TM} {w : World} {g cap : Nat} {tU' tT' : TM} {A : Option Addr} {n c : Nat} {Zd : List DL} {dT dU : Option (List I)} {w' w2 : World} (h : GoodAt m l tU tT w g cap tU' tT' A n c Zd dT dU w') (hE : Ev w' w2) : GoodAt m l tU tT w g cap tU' tT' A n c Zd dT dU w2 :=
  ⟨h.ts.ev hE, h.bh, h.sl.ev hE, fun d hd => (h.ds d hd).ev hE, h.nr, h.dt, h.du, h.ev.trans hE⟩
theorem ap_good {A B : Option Addr} {n cap cap0 m : Nat} {L : List CM} {tU tT : TM} (w : World) (h : TsAt w A 2 cap0 [tU, tT]) (hU : UtAt m tU tT) (hm : m ≤ 40) (hc : ChsAt w B n cap (L.map (CM.re false))) (hok : ∀ y ∈ L.map (CM.re false), ChOk y) (h0 : 0 < n) (hn : n ≤ 8) :
    Calls Tryz.prog 20 #[.slice A 2 cap0, .slice B n cap] w fun e w' => ∃ g cap' tU' tT' A' n' c' Zd dT dU, e = .returned (.tuple #[.slice (some ⟨g, 0, none⟩) 2 cap', .slice A' n' c', .int .i64 0, .int .i64 0]) ∧ GoodAt m (L.map (CM.re false)) tU tT w g cap' tU' tT' A' n' c' Zd dT dU w' := by
  have hl := hc.sl.len
  have hl2 : L.length = n := by rwa [List.length_map] at hl
  refine (bt_Apply w h hU (by omega) hc hok (by omega)).mono ?_
  intro e w' hap
  obtain ⟨hE, g, cap', tU', tT', A', n', c', Zd, dT, dU, rfl, hts, hb, hsl, hnew, hnr, hdT, hdU⟩ := hap.good (by omega) (by omega) (fun k y q tU' tT' hy _ hb => adds_taken (by omega) k y q tU' tT' hy hb)
  exact ⟨g, cap', tU', tT', A', n', c', Zd, dT, dU, rfl, hts.ts, hb, hsl, fun d hd => (hnew d hd).in_, hnr, hdT, hdU, hE⟩
end Go.Proofs.YthpiobkghfdkkaaGreat

namespace Go.Proofs.YthpiobkghfdkkaaGreat
open Go.RowKit
set_option linter.unusedVariables false

set_option maxRecDepth 100000 in
set_option maxHeartbeats 8000000 in
theorem order_walk {B C : Option Addr} {n cap n2 cap2 : Nat} {l l2 : List CM} {x2 : Int} (w : World) (h : ChsIn w B n cap l) (h' : ChsIn w C n2 cap2 l2) (hx2 : -9223372036854775808 ≤ x2 ∧ x2 ≤ 9223372036854775807) :
    Calls Tryz.prog 8 #[.slice B n cap, .slice C n2 cap2, .int .i64 x2] w fun e w' => e = .returned (.bool true) ∧ Ev w w' := by
  have hmix : Tryz.prog.follows .mixedOrders = true := by kernel_rfl
  have hcl := h'.sl.le
  have hcm := h'.sl.max
  have H := Lib.hid h'
  have HTB := Lib.hid (law16_tables w h)
  have HKN := Lib.hid (fun w1 => law16_known w1)
  clear h h'
  go_enter Tryz.func8, Tryz.ntmps8
  go_wp2_with (first
    | ((with_reducible refine (HTB.out).mono ?_); rintro r w1 ⟨m0, g0, tU, tT, rfl, _, hm0, hts, hut, hE⟩; have HTS := Lib.hid hts; have HUT := Lib.hid hut; have E1 := Lib.hid hE; clear hts hut hE))
  go_loopw [8, 10] (fun sv iv wr => ∃ (SA : Option Addr) (sc k : Nat) (L : List CM), sv = .slice SA k sc ∧ iv = .int .i64 (k : Int) ∧ k ≤ n2 ∧ k ≤ 8 ∧ Hid (TcSt w1 (.slice none 0 0) (.slice SA k sc) [] (L.map (CM.re false)) wr) ∧ Hid (∀ y ∈ L, ChOk y)) (fun _ iv _ => n2 - (intOf iv).toNat)
  case atStart => exact ⟨none, 0, 0, [], rfl, rfl, Nat.zero_le _, Nat.zero_le _, Lib.hid (TcSt.start _), Lib.hid (fun y hy => by cases hy)⟩
  case round =>
    obtain ⟨SA, sc, k, L, rfl, rfl, hk, hk8, HTC, HLK⟩ := hrel
    have HLL : Hid (L.length = k) := Lib.hid (by have := HTC.out.u.sl.len; rwa [List.length_map] at this)
    by_cases hlt : k < n2 ∧ k < 8
    · obtain ⟨hlt, hl8⟩ := hlt
      obtain ⟨x, hx⟩ := H.out.sl.at hlt
      have HXR := Lib.hid (H.out.each x (List.mem_of_getElem? hx))
      obtain ⟨b, off, rfl, hb, c0, c1, c2⟩ := (H.out.ev (E1.out.trans HTC.out.ev)).cell hx
      have i1 : (0 : Int) ≤ (k : Int) := by omega
      have i2 : (k : Int) < (n2 : Int) := by omega
      have i3 : (k : Int) < 8 := by omega
      have hv0 : (⟨x.tab.toArray⟩ : ByteArray) = x.bs := rfl
      rw [hv0] at c0
      clear hx hv0 hx2
      obtain ⟨q, hq⟩ : ∃ q, decide (x.bs.size % 2 = 0) = q := ⟨_, rfl⟩
      obtain ⟨nm, hnm⟩ : ∃ nm : ByteArray, nm = ⟨(nmT q).toArray⟩ := ⟨_, rfl⟩
      have HTM := Lib.hid (fun w1_ (hE : Ev wr w1_) => tame_q x q hq w1_ (HXR.out.ev ((E1.out.trans HTC.out.ev).trans hE)))
      unfold TameOutA at HTM
      rw [show (cond q ⟨#[116]⟩ ⟨#[117]⟩ : ByteArray) = nm by rw [hnm]; cases q <;> rfl] at HTM
      have HNM := Lib.hid hnm
      clear hq hnm
      go_upto_region 7 with (first
        | ((with_reducible refine (HTM.out _ (Ev.refl _)).mono ?_); rintro r wt ⟨TB, bk, bc_, rfl, hV, hVb, hE⟩; have HV := Lib.hid hV; have HVB := Lib.hid hVb; have ET := Lib.hid hE; clear hV hVb hE))
      have hbk : bk = (tameX q x.row).length := HV.out.len.symm
      subst hbk
      obtain ⟨wx, hwx⟩ : ∃ wx, wx = wt.alloc (.cells #[.string nm, .slice TB (tameX q x.row).length bc_, .bool x.rem] 25) := ⟨_, rfl⟩
      have hbo := ch_app_box HTC.out ET.out ⟨nmT q, TB, bc_, tameX q x.row, x.rem⟩ HV.out HVB.out (by have := HLL.out; rw [List.length_map]; omega) x.rem wx (by rw [hwx, HNM.out])
      simp only [← HNM.out] at hbo
      obtain ⟨hX, SA9, sc9, w9, hr9, hT9⟩ := hbo
      have HT9 := Lib.hid hT9
      rw [← hwx]
      have hX1 := hX.set 2 (.bool false)
      obtain ⟨⟨x0, x1, x2_⟩, z0, z1, z2⟩ := hX.three
      obtain ⟨⟨y0, y1, y2⟩, _⟩ := (show Bx 25 wt.heap.size #[.string nm, .slice TB (tameX q x.row).length bc_, .bool false] (wx.setCell ⟨wt.heap.size, 2, none⟩ (.bool false)) from hX1).three
      have hbl := hX.lt
      rw [show (wx.setCell ⟨wt.heap.size, 2, none⟩ (.bool false)).heap.size = wx.heap.size from by simp] at hr9
      generalize wt.heap.size = bx at *
      clear hX hX1 hT9 hwx
      go_wp2_with (first
        | ((show wpList _ _ _ (⟨some 53, _, _, _, _, _⟩ :: _) _ _); refine Lib.wpList_append_run _ rfl _ _ _ _ rfl _ _ rfl rfl _ _ hr9 ?_))
      exact ⟨⟨SA9, sc9, k + 1, L ++ [⟨nmT q, TB, bc_, tameX q x.row, x.rem⟩], rfl, by simp, by omega, by omega, by rw [List.map_append]; exact HT9, Lib.hid (fun y hy => by
        rcases List.mem_append.1 hy with hy | hy
        · exact HLK.out y hy
        · rw [List.mem_singleton.1 hy]
          exact ⟨q, rfl, tameX_fits q _, tameX_right q _⟩)⟩, by simp [intOf]; omega⟩
    · have hcs : ¬ (k : Int) < n2 ∨ ((k : Int) < n2 ∧ ¬ (k : Int) < 8) := by
        by_cases h1 : k < n2
        · exact .inr ⟨by omega, fun h2 => hlt ⟨h1, by omega⟩⟩
        · exact .inl (by omega)
      obtain ⟨Z, hZ⟩ : ∃ Z, Z = L.map (CM.re false) := ⟨_, rfl⟩
      rw [← hZ] at HTC
      have HZL := Lib.hid hZ
      have HZk : Hid (Z.length = k) := Lib.hid HTC.out.u.sl.len
      have HOK : Hid (∀ y ∈ Z, ChOk y) := Lib.hid (fun y hy => by
        rw [hZ] at hy
        obtain ⟨z, hz, rfl⟩ := List.mem_map.1 hy
        exact HLK.out z hz)
      clear hlt hZ
      go_upto_region 4 with fail
      go_cut [41] from 34 (fun v wx => v = .bool false ∧ wx = wr)
      case first =>
        rcases hcs with i2 | ⟨i2, i3⟩
        all_goals
          go_wp2
          go_meet
          exact ⟨rfl, rfl⟩
      case rest =>
      rename World => wr
      obtain ⟨rfl, rfl⟩ := hcut
      go_upto_region 10 with fail
      go_loopw [9, 12] (fun tv jv wv => ∃ (TA : Option Addr) (tc e : Nat), tv = .slice TA (k - e) tc ∧ jv = .int .i64 ((e : Int) - 1) ∧ e ≤ k ∧ Hid (TcSt w1 (.slice SA k sc) (.slice TA (k - e) tc) Z (Z.reverse.take (k - e)) wv)) (fun _ jv _ => (intOf jv + 1).toNat)
      case atStart => exact ⟨none, 0, k, by rw [Nat.sub_self], rfl, Nat.le_refl _, by rw [Nat.sub_self]; exact Lib.hid HTC.out.swap⟩
      case round =>
        rename World => wv
        obtain ⟨TA, tc, e, rfl, rfl, he, HT2⟩ := hrel
        by_cases he0 : 0 < e
        · obtain ⟨e1, rfl⟩ : ∃ e1, e = e1 + 1 := ⟨e - 1, by omega⟩
          have hj : (((e1 + 1 : Nat) : Int) - 1) = (e1 : Int) := by omega
          rw [hj]
          obtain ⟨y, hy⟩ : ∃ y, Z[e1]? = some y := ⟨_, List.getElem?_eq_getElem (by rw [HZk.out]; omega)⟩
          obtain ⟨bs, os, rfl, hbs, hcl⟩ := HT2.out.t.sl.rd (by omega)
          have c0 := hcl e1 y hy 0 _ rfl
          have c1 := hcl e1 y hy 1 _ rfl
          have c2 := hcl e1 y hy 2 _ rfl
          have hrow := HT2.out.t.rows y (List.mem_of_getElem? hy)
          have hsn : Z.reverse.take (k - e1) = Z.reverse.take (k - (e1 + 1)) ++ [y] := by
            rw [show k - e1 = k - (e1 + 1) + 1 by omega]
            exact take_rev (by rw [HZk.out]; omega) (by rw [HZk.out, show k - 1 - (k - (e1 + 1)) = e1 by omega]; exact hy)
          obtain ⟨TA9, tc9, w9, hr9, hT9, _, _⟩ := HT2.out.app (y := y) hrow.1 hrow.2 (by rw [List.length_take, List.length_reverse, HZk.out]; omega)
          rw [show k - (e1 + 1) + 1 = k - e1 by omega] at hr9 hT9
          rw [← hsn] at hT9
          have HT9 := Lib.hid hT9
          obtain ⟨nm, hnm⟩ : ∃ nm : ByteArray, nm = ⟨y.tab.toArray⟩ := ⟨_, rfl⟩
          rw [← hnm] at hr9 c0
          simp only [Nat.add_zero] at c0
          have j0 : (0 : Int) ≤ (e1 : Int) := by omega
          have j1 : (e1 : Int) < (k : Int) := by omega
          clear hj hcl hy hrow hsn hT9 hnm
          generalize y.row.length = yl at *
          generalize y.A = yA at *
          generalize y.cap = yc at *
          generalize y.rem = yr at *
          go_wp2_with (first
            | ((show wpList _ _ _ (⟨some 67, _, _, _, _, _⟩ :: _) _ _); refine Lib.wpList_append_run _ rfl _ _ _ _ rfl _ _ rfl rfl _ _ hr9 ?_))
          exact ⟨⟨TA9, tc9, e1, rfl, by simp, by omega, HT9⟩, by simp [intOf]⟩
        · obtain rfl : e = 0 := by omega
          rw [Nat.sub_zero] at HT2
          have hj : (((0 : Nat) : Int) - 1) = -1 := rfl
          rw [hj, Nat.sub_zero]
          have hrv : Z.reverse.take k = Z.reverse := List.take_of_length_le (by rw [List.length_reverse, HZk.out]; exact Nat.le_refl _)
          rw [hrv] at HT2
          clear hj hrv
          by_cases hk2 : (k : Int) < 2
          · have HK1 := Lib.hid (HKN.out wv)
            go_wp2_with ((with_reducible refine HK1.out.mono ?_); rintro r w3 ⟨rfl, hE3⟩)
            go_ret
            exact ⟨rfl, (E1.out.trans HT2.out.ev).trans hE3⟩
          · have HTW := Lib.hid (HTS.out.ev HT2.out.ev)
            have hcZ := HT2.out.t.chs
            have hcR := HT2.out.u.chs
            have hRm : Z.reverse = L.reverse.map (CM.re false) := by rw [HZL.out, List.map_reverse]
            have hokR : ∀ y ∈ Z.reverse, ChOk y := fun y hy => HOK.out y (List.mem_reverse.1 hy)
            have HAA : Hid (∃ L' : List CM, Z = L'.map (CM.re false)) := Lib.hid ⟨L, HZL.out⟩
            have HA := Lib.hid (show ∀ w2, Ev wv w2 → _ from fun (w2 : World) (hE : Ev wv w2) => ap_good (L := L) w2 (HTW.out.ev hE) HUT.out (by omega) (by rw [← HZL.out]; exact hcZ.ev hE) (by rw [← HZL.out]; exact HOK.out) (by omega) hk8)
            have HB := Lib.hid (show ∀ w2, Ev wv w2 → _ from fun (w2 : World) (hE : Ev wv w2) => ap_good (L := L.reverse) w2 (HTW.out.ev hE) HUT.out (by omega) (by rw [← hRm]; exact hcR.ev hE) (by rw [← hRm]; exact hokR) (by omega) hk8)
            rw [← HZL.out] at HA
            rw [← hRm] at HB
            have HCZ := Lib.hid hcZ
            clear hcZ hcR hRm hokR
            go_upto_region 16 with ((with_reducible refine (HA.out _ (Ev.refl _)).mono ?_); rintro r wa ⟨ga, ca, aU, aT, dA, dn, dc, Za, daT, daU, rfl, hGa⟩)
            have HGa := Lib.hid hGa
            clear hGa
            go_upto_if 89 with ((with_reducible refine (HB.out _ HGa.out.ev).mono ?_); rintro r wb ⟨gb, cb, bU, bT, fA, fn, fc, Zb, dbT, dbU, rfl, hGb⟩)
            have HGb := Lib.hid hGb
            clear hGb
            go_cut [2] (fun v wx => ∃ dd : Nat, v = .int .i64 (dd : Int) ∧ wx = wb)
            case first =>
              by_cases hx : x2 < 0
              · go_wp2_with fail
                go_meet
                exact ⟨(-(x2 + 1)).toNat, by congr 1; omega, rfl⟩
              · go_wp2_with fail
                go_meet
                exact ⟨x2.toNat, by congr 1; omega, rfl⟩
            case rest =>
            rename World => wb
            obtain ⟨dd, rfl, rfl⟩ := hcut
            clear hx2
            obtain ⟨c, hc⟩ : ∃ c, c = dd % (k - 1) + 1 := ⟨_, rfl⟩
            have hck : c < k := by have := Nat.mod_lt dd (show 0 < k - 1 by omega); omega
            have hc1 : 1 ≤ c := by omega
            have HM : 1 + (dd : Int) % ((k : Int) - 1) = (c : Int) := by
              rw [hc, show (k : Int) - 1 = ((k - 1 : Nat) : Int) by omega]
              omega
            clear hc
            obtain ⟨bs, os, rfl, _, _⟩ := HCZ.out.sl.rd (by omega)
            have hle := HCZ.out.sl.le
            have hcap := HCZ.out.sl.max
            have hcc1 : ChsAt wb (some ⟨bs, os, none⟩) c sc ((L.take c).map (CM.re false)) := by
              rw [List.map_take, ← HZL.out]
              exact chs_take ((HCZ.out.ev HGa.out.ev).ev HGb.out.ev) (by omega)
            have hcc2 : ChsAt wb (some ⟨bs, os + c * 3, none⟩) (k - c) (sc - c) ((L.drop c).map (CM.re false)) := by
              rw [List.map_drop, ← HZL.out]
              exact chs_drop ((HCZ.out.ev HGa.out.ev).ev HGb.out.ev) (by omega) (by omega)
            have hok1 : ∀ y ∈ (L.take c).map (CM.re false), ChOk y := fun y hy => by
              rw [List.map_take, ← HZL.out] at hy
              exact HOK.out y (List.mem_of_mem_take hy)
            have hok2 : ∀ y ∈ (L.drop c).map (CM.re false), ChOk y := fun y hy => by
              rw [List.map_drop, ← HZL.out] at hy
              exact HOK.out y (List.mem_of_mem_drop hy)
            have hlc : ((L.take c).map (CM.re false)).length = c := hcc1.sl.len
            have HMm := Lib.hid (ap_good (L := L.take c) wb ((HTW.out.ev HGa.out.ev).ev HGb.out.ev) HUT.out (by omega) hcc1 hok1 (by omega) (by omega))
            have HNn := Lib.hid (fun (wm : World) (gm cm : Nat) (mU mT : TM) (hE : Ev wb wm) (hts : TsAt wm (some ⟨gm, 0, none⟩) 2 cm [mU, mT]) (hut : UtAt (m0 + c) mU mT) => ap_good (L := L.drop c) wm hts hut (by omega) (hcc2.ev hE) hok2 (by omega) (by omega))
            have HLC := Lib.hid hlc
            clear hcc1 hcc2 hok1 hok2 hlc
            have hsc : ¬ sc = c := by omega
            have i5 : (c : Int) ≤ (k : Int) := by omega
            have i6 : (k : Int) ≤ (sc : Int) := by omega
            have i7 : (c : Int) ≤ (sc : Int) := by omega
            have i8 : ¬ ((k : Int) - 1 = 0) := by omega
            have HdT := Lib.hid (show daT = dbT from HGa.out.dt.same HGb.out.dt (fun x => by simp) (fun f => (chS_reverse true f Z).symm))
            have HdU := Lib.hid (show daU = dbU from HGa.out.du.same HGb.out.du (fun x => by simp) (fun f => (chS_reverse false f Z).symm))
            have HMP := Lib.hid (show Za.map nr = Zb.map nr by rw [HGa.out.nr, HGb.out.nr, HdT.out, HdU.out])
            have hdn : fn = dn := by
              have h1 := HGa.out.sl.len
              have h2 := HGb.out.sl.len
              have h3 := congrArg List.length HMP.out
              simp only [List.length_map] at h3
              omega
            subst hdn
            go_upto_region 21 with ((with_reducible refine HMm.out.mono ?_); rintro r wm ⟨gm, cm, mU, mT, m1, m2, m3, Zm, dmT, dmU, rfl, hGm⟩)
            have HGm := Lib.hid hGm
            clear hGm
            have hut : UtAt (m0 + c) mU mT := by have h := HGm.out.bh.ut; rwa [HLC.out] at h
            have HNN := Lib.hid (HNn.out wm gm cm mU mT HGm.out.ev HGm.out.ts hut)
            clear hut
            go_upto_if 154 with ((with_reducible refine HNN.out.mono ?_); rintro r wn ⟨gn, cn, nU, nT, p1, p2, p3, Zn, dnT, dnU, rfl, hGn⟩)
            have HGn := Lib.hid hGn
            clear hGn
            go_cut [13, 14, 17, 18, 26] from 0 (fun v13 v14 v17 v18 v26 wx => v13 = .slice (some ⟨ga, 0, none⟩) 2 ca ∧ v14 = .slice dA fn dc ∧ v17 = .slice (some ⟨gb, 0, none⟩) 2 cb ∧ v18 = .slice fA fn fc ∧ v26 = .slice (some ⟨gn, 0, none⟩) 2 cn ∧ wx = wn)
            case first =>
              go_wp2
              go_meet
              exact ⟨rfl, rfl, rfl, rfl, rfl, rfl⟩
            case rest =>
            rename World => wn
            obtain ⟨rfl, rfl, rfl, rfl, rfl, rfl⟩ := hcut
            have EN := Lib.hid ((((E1.out.trans HT2.out.ev).trans HGa.out.ev).trans HGb.out.ev).trans (HGm.out.ev.trans HGn.out.ev))
            have hEbn := HGm.out.ev.trans HGn.out.ev
            have HGaN := Lib.hid ((HGa.out.up HGb.out.ev).up hEbn)
            have HGbN := Lib.hid (HGb.out.up hEbn)
            clear hEbn
            have hf1 := HGaN.out.sl.le
            have hf2 := HGaN.out.sl.max
            go_upto_region 25 with fail
            go_loopw [30] (fun iv wq => ∃ ii : Nat, iv = .int .i64 (ii : Int) ∧ ii ≤ fn ∧ Ev wn wq) (fun iv _ => fn - (intOf iv).toNat)
            case atStart => exact ⟨0, rfl, Nat.zero_le _, Ev.refl _⟩
            case round =>
              rename World => wq
              obtain ⟨ii, rfl, hii, hEq⟩ := hrel
              by_cases hki : ii < fn
              · obtain ⟨d1, hd1⟩ : ∃ d, Za[ii]? = some d := ⟨_, List.getElem?_eq_getElem (by rw [HGaN.out.sl.len]; exact hki)⟩
                obtain ⟨d2, hd2⟩ : ∃ d, Zb[ii]? = some d := ⟨_, List.getElem?_eq_getElem (by rw [HGbN.out.sl.len]; exact hki)⟩
                have hnr : nr d1 = nr d2 := by
                  have h := congrArg (fun l => l[ii]?) HMP.out
                  simp only [List.getElem?_map, hd1, hd2, Option.map_some, Option.some.injEq] at h
                  exact h
                simp only [nr, Prod.mk.injEq] at hnr
                have hz2 := (dF_each HGbN.out.nr HGbN.out.dt HGbN.out.du hd2).2.1
                obtain ⟨ba, oa, rfl, hba, hca⟩ := (HGaN.out.sl.ev hEq).rd (by omega)
                obtain ⟨bb, ob, rfl, hbb, hcb⟩ := (HGbN.out.sl.ev hEq).rd (by omega)
                have a0 := hca ii d1 hd1 0 _ rfl
                have a1 := hca ii d1 hd1 1 _ rfl
                have b0 := hcb ii d2 hd2 0 _ rfl
                have b1 := hcb ii d2 hd2 1 _ rfl
                simp only [Nat.add_zero] at a0 b0
                rw [← hnr.1] at b0
                have HSA := Lib.hid (fun w4 (hE : Ev wq w4) => same_z w4 ((HGaN.out.ds d1 (List.mem_of_getElem? hd1)).ev hEq) ((HGbN.out.ds d2 (List.mem_of_getElem? hd2)).ev hEq) hnr.2 hE hz2)
                unfold Yes at HSA
                obtain ⟨nm, hnm⟩ : ∃ nm : ByteArray, nm = ⟨d1.name.toArray⟩ := ⟨_, rfl⟩
                rw [← hnm] at a0 b0
                have lba := hba
                have HEq := Lib.hid hEq
                clear hd1 hd2 hnr hz2 hca hcb hnm hEq
                go_upto_region 27 with fail
                -- region 27
                refine wp_region_slots hmix [fun v _ => v = .slice (some ⟨ba, oa, none⟩) fn dc, fun v _ => v = .int .i64 (ii : Int), fun v _ => v = .pointer (some ⟨ba, oa + ii * 2, none⟩), fun v _ => v = .pointer (some ⟨ba, oa + ii * 2, none⟩), fun v _ => v = .string nm, fun v _ => v = .slice (some ⟨bb, ob, none⟩) fn fc, fun v _ => v = .int .i64 (ii : Int), fun v _ => v = .pointer (some ⟨bb, ob + ii * 2, none⟩), fun v _ => v = .pointer (some ⟨bb, ob + ii * 2, none⟩), fun v _ => v = .string nm, fun v _ => v = .bool false, fun v _ => v = .bool false, fun v _ => v = .slice (some ⟨ba, oa, none⟩) fn dc, fun v _ => v = .int .i64 (ii : Int), fun v _ => v = .pointer (some ⟨ba, oa + ii * 2, none⟩), fun v _ => v = .pointer (some ⟨ba, oa + ii * 2 + 1, none⟩), fun v _ => v = .slice d1.A d1.rows.length d1.cap, fun v _ => v = .slice (some ⟨bb, ob, none⟩) fn fc, fun v _ => v = .int .i64 (ii : Int), fun v _ => v = .pointer (some ⟨bb, ob + ii * 2, none⟩), fun v _ => v = .pointer (some ⟨bb, ob + ii * 2 + 1, none⟩), fun v _ => v = .slice d2.A d2.rows.length d2.cap, fun v _ => v = .bool true, fun v _ => v = .bool false, fun v _ => v = .bool false]
                  217 rfl (by kernel_rfl) ⟨mono_eq _, mono_eq _, mono_eq _, mono_eq _, mono_eq _, mono_eq _, mono_eq _, mono_eq _, mono_eq _, mono_eq _, mono_eq _, mono_eq _, mono_eq _, mono_eq _, mono_eq _, mono_eq _, mono_eq _, mono_eq _, mono_eq _, mono_eq _, mono_eq _, mono_eq _, mono_eq _, mono_eq _, mono_eq _, trivial⟩ ?_ ?_
                · refine ops_cons 0 ?_ (ops_cons 1 ?_ (ops_cons 2 ?_ (ops_cons 3 ?_ (ops_cons 4 ?_ (ops_cons 5 ?_ (ops_cons 6 ?_ (ops_cons 7 ?_ (ops_cons 8 ?_ (ops_cons 9 ?_ (ops_cons 10 ?_ (ops_cons 11 ?_ (ops_cons 12 ?_ (ops_cons 13 ?_ (ops_cons 14 ?_ (ops_cons 15 ?_ (ops_cons 16 ?_ (ops_cons 17 ?_ (ops_cons 18 ?_ (ops_cons 19 ?_ (ops_cons 20 ?_ (ops_cons 21 ?_ (ops_cons 22 ?_ (ops_cons 23 ?_ (ops_cons 24 ?_ (ops_nil 25)))))))))))))))))))))))))
                  · refine op_value fun a wq c => ⟨(wanted_plain rfl), _, run_move _ rfl wq, (c.was 14 (by kernel_rfl) rfl)⟩
                  · refine op_value fun a wq c => ⟨(wanted_plain rfl), _, run_move _ rfl wq, (c.was 30 (by kernel_rfl) rfl)⟩
                  · refine op_value fun a wq c => ⟨(wanted_plain rfl), .pointer (some ⟨ba, oa + ii * 2, none⟩), ?_, rfl⟩
                    have e161 : a.eval (.tmp 161) = .slice (some ⟨ba, oa, none⟩) fn dc := (c.new 0 161 (by kernel_rfl) (by kernel_rfl))
                    have e162 : a.eval (.tmp 162) = .int .i64 (ii : Int) := (c.new 1 162 (by kernel_rfl) (by kernel_rfl))
                    generalize a.eval = ρ at e161 e162 ⊢
                    simp [execOp, e161, e162, go_sem, hki]
                  · refine op_value fun a wq c => ⟨(wanted_plain rfl), .pointer (some ⟨ba, oa + ii * 2, none⟩), ?_, rfl⟩
                    have e163 : a.eval (.tmp 163) = .pointer (some ⟨ba, oa + ii * 2, none⟩) := (c.new 2 163 (by kernel_rfl) (by kernel_rfl))
                    generalize a.eval = ρ at e163 ⊢
                    simp [execOp, e163, go_sem]
                  · refine op_value fun a wq c => ⟨(wanted_plain rfl), .string nm, ?_, rfl⟩
                    have e164 : a.eval (.tmp 164) = .pointer (some ⟨ba, oa + ii * 2, none⟩) := (c.new 3 164 (by kernel_rfl) (by kernel_rfl))
                    have hc := (c.ev.cell (p := ⟨ba, oa + ii * 2, none⟩) hba).trans a0
                    generalize a.eval = ρ at e164 ⊢
                    simp [execOp, e164, hc, go_sem]
                  · refine op_value fun a wq c => ⟨(wanted_plain rfl), _, run_move _ rfl wq, (c.was 18 (by kernel_rfl) rfl)⟩
                  · refine op_value fun a wq c => ⟨(wanted_plain rfl), _, run_move _ rfl wq, (c.was 30 (by kernel_rfl) rfl)⟩
                  · refine op_value fun a wq c => ⟨(wanted_plain rfl), .pointer (some ⟨bb, ob + ii * 2, none⟩), ?_, rfl⟩
                    have e166 : a.eval (.tmp 166) = .slice (some ⟨bb, ob, none⟩) fn fc := (c.new 5 166 (by kernel_rfl) (by kernel_rfl))
                    have e167 : a.eval (.tmp 167) = .int .i64 (ii : Int) := (c.new 6 167 (by kernel_rfl) (by kernel_rfl))
                    generalize a.eval = ρ at e166 e167 ⊢
                    simp [execOp, e166, e167, go_sem, hki]
                  · refine op_value fun a wq c => ⟨(wanted_plain rfl), .pointer (some ⟨bb, ob + ii * 2, none⟩), ?_, rfl⟩
                    have e168 : a.eval (.tmp 168) = .pointer (some ⟨bb, ob + ii * 2, none⟩) := (c.new 7 168 (by kernel_rfl) (by kernel_rfl))
                    generalize a.eval = ρ at e168 ⊢
                    simp [execOp, e168, go_sem]
                  · refine op_value fun a wq c => ⟨(wanted_plain rfl), .string nm, ?_, rfl⟩
                    have e169 : a.eval (.tmp 169) = .pointer (some ⟨bb, ob + ii * 2, none⟩) := (c.new 8 169 (by kernel_rfl) (by kernel_rfl))
                    have hc := (c.ev.cell (p := ⟨bb, ob + ii * 2, none⟩) hbb).trans b0
                    generalize a.eval = ρ at e169 ⊢
                    simp [execOp, e169, hc, go_sem]
                  · refine op_value fun a wq c => ⟨(wanted_plain rfl), .bool false, ?_, rfl⟩
                    have e165 : a.eval (.tmp 165) = .string nm := (c.new 4 165 (by kernel_rfl) (by kernel_rfl))
                    have e170 : a.eval (.tmp 170) = .string nm := (c.new 9 170 (by kernel_rfl) (by kernel_rfl))
                    generalize a.eval = ρ at e165 e170 ⊢
                    simp [execOp, e165, e170, go_sem]
                  · refine op_value fun a wq c => ⟨(wanted_plain rfl), _, run_move _ rfl wq, (c.new 10 171 (by kernel_rfl) (by kernel_rfl))⟩
                  · refine op_value fun a wq c => ⟨(wanted_yes rfl (by kernel_rfl) (c.new 11 172 (by kernel_rfl) (by kernel_rfl))), _, run_move _ rfl wq, (c.was 14 (by kernel_rfl) rfl)⟩
                  · refine op_value fun a wq c => ⟨(wanted_yes rfl (by kernel_rfl) (c.new 11 172 (by kernel_rfl) (by kernel_rfl))), _, run_move _ rfl wq, (c.was 30 (by kernel_rfl) rfl)⟩
                  · refine op_value fun a wq c => ⟨(wanted_yes rfl (by kernel_rfl) (c.new 11 172 (by kernel_rfl) (by kernel_rfl))), .pointer (some ⟨ba, oa + ii * 2, none⟩), ?_, rfl⟩
                    have e173 : a.eval (.tmp 173) = .slice (some ⟨ba, oa, none⟩) fn dc := (c.new 12 173 (by kernel_rfl) (by kernel_rfl))
                    have e174 : a.eval (.tmp 174) = .int .i64 (ii : Int) := (c.new 13 174 (by kernel_rfl) (by kernel_rfl))
                    generalize a.eval = ρ at e173 e174 ⊢
                    simp [execOp, e173, e174, go_sem, hki]
                  · refine op_value fun a wq c => ⟨(wanted_yes rfl (by kernel_rfl) (c.new 11 172 (by kernel_rfl) (by kernel_rfl))), .pointer (some ⟨ba, oa + ii * 2 + 1, none⟩), ?_, rfl⟩
                    have e175 : a.eval (.tmp 175) = .pointer (some ⟨ba, oa + ii * 2, none⟩) := (c.new 14 175 (by kernel_rfl) (by kernel_rfl))
                    generalize a.eval = ρ at e175 ⊢
                    simp [execOp, e175, go_sem]
                  · refine op_value fun a wq c => ⟨(wanted_yes rfl (by kernel_rfl) (c.new 11 172 (by kernel_rfl) (by kernel_rfl))), .slice d1.A d1.rows.length d1.cap, ?_, rfl⟩
                    have e176 : a.eval (.tmp 176) = .pointer (some ⟨ba, oa + ii * 2 + 1, none⟩) := (c.new 15 176 (by kernel_rfl) (by kernel_rfl))
                    have hc := (c.ev.cell (p := ⟨ba, oa + ii * 2 + 1, none⟩) hba).trans a1
                    generalize a.eval = ρ at e176 ⊢
                    simp [execOp, e176, hc, go_sem]
                  · refine op_value fun a wq c => ⟨(wanted_yes rfl (by kernel_rfl) (c.new 11 172 (by kernel_rfl) (by kernel_rfl))), _, run_move _ rfl wq, (c.was 18 (by kernel_rfl) rfl)⟩
                  · refine op_value fun a wq c => ⟨(wanted_yes rfl (by kernel_rfl) (c.new 11 172 (by kernel_rfl) (by kernel_rfl))), _, run_move _ rfl wq, (c.was 30 (by kernel_rfl) rfl)⟩
                  · refine op_value fun a wq c => ⟨(wanted_yes rfl (by kernel_rfl) (c.new 11 172 (by kernel_rfl) (by kernel_rfl))), .pointer (some ⟨bb, ob + ii * 2, none⟩), ?_, rfl⟩
                    have e178 : a.eval (.tmp 178) = .slice (some ⟨bb, ob, none⟩) fn fc := (c.new 17 178 (by kernel_rfl) (by kernel_rfl))
                    have e179 : a.eval (.tmp 179) = .int .i64 (ii : Int) := (c.new 18 179 (by kernel_rfl) (by kernel_rfl))
                    generalize a.eval = ρ at e178 e179 ⊢
                    simp [execOp, e178, e179, go_sem, hki]
                  · refine op_value fun a wq c => ⟨(wanted_yes rfl (by kernel_rfl) (c.new 11 172 (by kernel_rfl) (by kernel_rfl))), .pointer (some ⟨bb, ob + ii * 2 + 1, none⟩), ?_, rfl⟩
                    have e180 : a.eval (.tmp 180) = .pointer (some ⟨bb, ob + ii * 2, none⟩) := (c.new 19 180 (by kernel_rfl) (by kernel_rfl))
                    generalize a.eval = ρ at e180 ⊢
                    simp [execOp, e180, go_sem]
                  · refine op_value fun a wq c => ⟨(wanted_yes rfl (by kernel_rfl) (c.new 11 172 (by kernel_rfl) (by kernel_rfl))), .slice d2.A d2.rows.length d2.cap, ?_, rfl⟩
                    have e181 : a.eval (.tmp 181) = .pointer (some ⟨bb, ob + ii * 2 + 1, none⟩) := (c.new 20 181 (by kernel_rfl) (by kernel_rfl))
                    have hc := (c.ev.cell (p := ⟨bb, ob + ii * 2 + 1, none⟩) hbb).trans b1
                    generalize a.eval = ρ at e181 ⊢
                    simp [execOp, e181, hc, go_sem]
                  · refine op_call fun a wq c => ⟨(wanted_yes rfl (by kernel_rfl) (c.new 11 172 (by kernel_rfl) (by kernel_rfl))), 22, #[.slice d1.A d1.rows.length d1.cap, .slice d2.A d2.rows.length d2.cap], ?_, ?_⟩
                    · rw [run_call 22 _ _ rfl (by kernel_rfl)]
                      have e177 : a.eval (.tmp 177) = .slice d1.A d1.rows.length d1.cap := (c.new 16 177 (by kernel_rfl) (by kernel_rfl))
                      have e182 : a.eval (.tmp 182) = .slice d2.A d2.rows.length d2.cap := (c.new 21 182 (by kernel_rfl) (by kernel_rfl))
                      simp [e177, e182]
                    · refine (HSA.out _ c.ev).mono ?_
                      rintro e wp ⟨rfl, hE_⟩
                      exact ⟨_, rfl, hE_, rfl⟩
                  · refine op_value fun a wq c => ⟨(wanted_yes rfl (by kernel_rfl) (c.new 11 172 (by kernel_rfl) (by kernel_rfl))), .bool false, ?_, rfl⟩
                    have e183 : a.eval (.tmp 183) = .bool true := (c.new 22 183 (by kernel_rfl) (by kernel_rfl))
                    generalize a.eval = ρ at e183 ⊢
                    simp [execOp, e183, go_sem]
                  · refine op_value fun a wq c => ⟨(wanted_plain rfl), _, run_pick_false rfl (c.new 11 172 (by kernel_rfl) (by kernel_rfl)) wq, (c.new 23 184 (by kernel_rfl) (by kernel_rfl))⟩
                intro s w4 hE hold hnew
                have f0 : s 0 = u0 := hold 0 (by kernel_rfl)
                have f1 : s 1 = u1 := hold 1 (by kernel_rfl)
                have f2 : s 2 = u2 := hold 2 (by kernel_rfl)
                have f3 : s 3 = u3 := hold 3 (by kernel_rfl)
                have f4 : s 4 = u4 := hold 4 (by kernel_rfl)
                have f5 : s 5 = u5 := hold 5 (by kernel_rfl)
                have f7 : s 7 = u7 := hold 7 (by kernel_rfl)
                have f8 : s 8 = u8 := hold 8 (by kernel_rfl)
                have f9 : s 9 = u9 := hold 9 (by kernel_rfl)
                have f10 : s 10 = u10 := hold 10 (by kernel_rfl)
                have f11 : s 11 = u11 := hold 11 (by kernel_rfl)
                have f12 : s 12 = u12 := hold 12 (by kernel_rfl)
                have f13 : s 13 = .slice (some ⟨ga, 0, none⟩) 2 ca := hold 13 (by kernel_rfl)
                have f14 : s 14 = .slice (some ⟨ba, oa, none⟩) fn dc := hold 14 (by kernel_rfl)
                have f15 : s 15 = u15 := hold 15 (by kernel_rfl)
                have f16 : s 16 = u16 := hold 16 (by kernel_rfl)
                have f17 : s 17 = .slice (some ⟨gb, 0, none⟩) 2 cb := hold 17 (by kernel_rfl)
                have f18 : s 18 = .slice (some ⟨bb, ob, none⟩) fn fc := hold 18 (by kernel_rfl)
                have f19 : s 19 = u19 := hold 19 (by kernel_rfl)
                have f20 : s 20 = u20 := hold 20 (by kernel_rfl)
                have f21 : s 21 = u21 := hold 21 (by kernel_rfl)
                have f22 : s 22 = u22 := hold 22 (by kernel_rfl)
                have f23 : s 23 = u23 := hold 23 (by kernel_rfl)
                have f24 : s 24 = u24 := hold 24 (by kernel_rfl)
                have f25 : s 25 = u25 := hold 25 (by kernel_rfl)
                have f26 : s 26 = .slice (some ⟨gn, 0, none⟩) 2 cn := hold 26 (by kernel_rfl)
                have f27 : s 27 = u27 := hold 27 (by kernel_rfl)
                have f28 : s 28 = u28 := hold 28 (by kernel_rfl)
                have f29 : s 29 = u29 := hold 29 (by kernel_rfl)
                have f30 : s 30 = .int .i64 (ii : Int) := hold 30 (by kernel_rfl)
                have f31 : s 31 = u31 := hold 31 (by kernel_rfl)
                have f32 : s 32 = u32 := hold 32 (by kernel_rfl)
                have f33 : s 33 = u33 := hold 33 (by kernel_rfl)
                have f34 : s 34 = u34 := hold 34 (by kernel_rfl)
                have f35 : s 35 = u35 := hold 35 (by kernel_rfl)
                have f36 : s 36 = u36 := hold 36 (by kernel_rfl)
                have f37 : s 37 = u37 := hold 37 (by kernel_rfl)
                have f38 : s 38 = u38 := hold 38 (by kernel_rfl)
                have f39 : s 39 = u39 := hold 39 (by kernel_rfl)
                have f40 : s 40 = u40 := hold 40 (by kernel_rfl)
                have f41 : s 41 = u41 := hold 41 (by kernel_rfl)
                have f42 : s 42 = u42 := hold 42 (by kernel_rfl)
                have f43 : s 43 = u43 := hold 43 (by kernel_rfl)
                have f44 : s 44 = u44 := hold 44 (by kernel_rfl)
                have f45 : s 45 = u45 := hold 45 (by kernel_rfl)
                have f46 : s 46 = u46 := hold 46 (by kernel_rfl)
                have f47 : s 47 = u47 := hold 47 (by kernel_rfl)
                have f48 : s 48 = u48 := hold 48 (by kernel_rfl)
                have f49 : s 49 = u49 := hold 49 (by kernel_rfl)
                have f50 : s 50 = u50 := hold 50 (by kernel_rfl)
                have f51 : s 51 = u51 := hold 51 (by kernel_rfl)
                have f52 : s 52 = u52 := hold 52 (by kernel_rfl)
                have f53 : s 53 = u53 := hold 53 (by kernel_rfl)
                have f54 : s 54 = u54 := hold 54 (by kernel_rfl)
                have f55 : s 55 = u55 := hold 55 (by kernel_rfl)
                have f56 : s 56 = u56 := hold 56 (by kernel_rfl)
                have f57 : s 57 = u57 := hold 57 (by kernel_rfl)
                have f58 : s 58 = u58 := hold 58 (by kernel_rfl)
                have f59 : s 59 = u59 := hold 59 (by kernel_rfl)
                have f60 : s 60 = u60 := hold 60 (by kernel_rfl)
                have f61 : s 61 = u61 := hold 61 (by kernel_rfl)
                have f62 : s 62 = u62 := hold 62 (by kernel_rfl)
                have f63 : s 63 = u63 := hold 63 (by kernel_rfl)
                have f64 : s 64 = u64 := hold 64 (by kernel_rfl)
                have f65 : s 65 = u65 := hold 65 (by kernel_rfl)
                have f66 : s 66 = u66 := hold 66 (by kernel_rfl)
                have f67 : s 67 = u67 := hold 67 (by kernel_rfl)
                have f68 : s 68 = u68 := hold 68 (by kernel_rfl)
                have f69 : s 69 = u69 := hold 69 (by kernel_rfl)
                have f70 : s 70 = u70 := hold 70 (by kernel_rfl)
                have f71 : s 71 = u71 := hold 71 (by kernel_rfl)
                have f72 : s 72 = u72 := hold 72 (by kernel_rfl)
                have f73 : s 73 = u73 := hold 73 (by kernel_rfl)
                have f74 : s 74 = u74 := hold 74 (by kernel_rfl)
                have f75 : s 75 = u75 := hold 75 (by kernel_rfl)
                have f76 : s 76 = u76 := hold 76 (by kernel_rfl)
                have f77 : s 77 = u77 := hold 77 (by kernel_rfl)
                have f78 : s 78 = u78 := hold 78 (by kernel_rfl)
                have f79 : s 79 = u79 := hold 79 (by kernel_rfl)
                have f80 : s 80 = u80 := hold 80 (by kernel_rfl)
                have f81 : s 81 = u81 := hold 81 (by kernel_rfl)
                have f82 : s 82 = u82 := hold 82 (by kernel_rfl)
                have f83 : s 83 = u83 := hold 83 (by kernel_rfl)
                have f84 : s 84 = u84 := hold 84 (by kernel_rfl)
                have f85 : s 85 = u85 := hold 85 (by kernel_rfl)
                have f86 : s 86 = u86 := hold 86 (by kernel_rfl)
                have f87 : s 87 = u87 := hold 87 (by kernel_rfl)
                have f88 : s 88 = u88 := hold 88 (by kernel_rfl)
                have f89 : s 89 = u89 := hold 89 (by kernel_rfl)
                have f90 : s 90 = u90 := hold 90 (by kernel_rfl)
                have f91 : s 91 = u91 := hold 91 (by kernel_rfl)
                have f92 : s 92 = u92 := hold 92 (by kernel_rfl)
                have f93 : s 93 = u93 := hold 93 (by kernel_rfl)
                have f94 : s 94 = u94 := hold 94 (by kernel_rfl)
                have f95 : s 95 = u95 := hold 95 (by kernel_rfl)
                have f96 : s 96 = u96 := hold 96 (by kernel_rfl)
                have f97 : s 97 = u97 := hold 97 (by kernel_rfl)
                have f98 : s 98 = u98 := hold 98 (by kernel_rfl)
                have f99 : s 99 = u99 := hold 99 (by kernel_rfl)
                have f100 : s 100 = u100 := hold 100 (by kernel_rfl)
                have f101 : s 101 = u101 := hold 101 (by kernel_rfl)
                have f102 : s 102 = u102 := hold 102 (by kernel_rfl)
                have f103 : s 103 = u103 := hold 103 (by kernel_rfl)
                have f104 : s 104 = u104 := hold 104 (by kernel_rfl)
                have f105 : s 105 = u105 := hold 105 (by kernel_rfl)
                have f106 : s 106 = u106 := hold 106 (by kernel_rfl)
                have f107 : s 107 = u107 := hold 107 (by kernel_rfl)
                have f108 : s 108 = u108 := hold 108 (by kernel_rfl)
                have f109 : s 109 = u109 := hold 109 (by kernel_rfl)
                have f110 : s 110 = u110 := hold 110 (by kernel_rfl)
                have f111 : s 111 = u111 := hold 111 (by kernel_rfl)
                have f112 : s 112 = u112 := hold 112 (by kernel_rfl)
                have f113 : s 113 = u113 := hold 113 (by kernel_rfl)
                have f114 : s 114 = u114 := hold 114 (by kernel_rfl)
                have f115 : s 115 = u115 := hold 115 (by kernel_rfl)
                have f116 : s 116 = u116 := hold 116 (by kernel_rfl)
                have f117 : s 117 = u117 := hold 117 (by kernel_rfl)
                have f118 : s 118 = u118 := hold 118 (by kernel_rfl)
                have f119 : s 119 = u119 := hold 119 (by kernel_rfl)
                have f120 : s 120 = u120 := hold 120 (by kernel_rfl)
                have f121 : s 121 = u121 := hold 121 (by kernel_rfl)
                have f122 : s 122 = u122 := hold 122 (by kernel_rfl)
                have f123 : s 123 = u123 := hold 123 (by kernel_rfl)
                have f124 : s 124 = u124 := hold 124 (by kernel_rfl)
                have f125 : s 125 = u125 := hold 125 (by kernel_rfl)
                have f126 : s 126 = u126 := hold 126 (by kernel_rfl)
                have f127 : s 127 = u127 := hold 127 (by kernel_rfl)
                have f128 : s 128 = u128 := hold 128 (by kernel_rfl)
                have f129 : s 129 = u129 := hold 129 (by kernel_rfl)
                have f130 : s 130 = u130 := hold 130 (by kernel_rfl)
                have f131 : s 131 = u131 := hold 131 (by kernel_rfl)
                have f132 : s 132 = u132 := hold 132 (by kernel_rfl)
                have f133 : s 133 = u133 := hold 133 (by kernel_rfl)
                have f134 : s 134 = u134 := hold 134 (by kernel_rfl)
                have f135 : s 135 = u135 := hold 135 (by kernel_rfl)
                have f136 : s 136 = u136 := hold 136 (by kernel_rfl)
                have f137 : s 137 = u137 := hold 137 (by kernel_rfl)
                have f138 : s 138 = u138 := hold 138 (by kernel_rfl)
                have f139 : s 139 = u139 := hold 139 (by kernel_rfl)
                have f140 : s 140 = u140 := hold 140 (by kernel_rfl)
                have f141 : s 141 = u141 := hold 141 (by kernel_rfl)
                have f142 : s 142 = u142 := hold 142 (by kernel_rfl)
                have f143 : s 143 = u143 := hold 143 (by kernel_rfl)
                have f144 : s 144 = u144 := hold 144 (by kernel_rfl)
                have f145 : s 145 = u145 := hold 145 (by kernel_rfl)
                have f146 : s 146 = u146 := hold 146 (by kernel_rfl)
                have f147 : s 147 = u147 := hold 147 (by kernel_rfl)
                have f148 : s 148 = u148 := hold 148 (by kernel_rfl)
                have f149 : s 149 = u149 := hold 149 (by kernel_rfl)
                have f150 : s 150 = u150 := hold 150 (by kernel_rfl)
                have f151 : s 151 = u151 := hold 151 (by kernel_rfl)
                have f152 : s 152 = u152 := hold 152 (by kernel_rfl)
                have f153 : s 153 = u153 := hold 153 (by kernel_rfl)
                have f154 : s 154 = u154 := hold 154 (by kernel_rfl)
                have f186 : s 186 = u186 := hold 186 (by kernel_rfl)
                have f187 : s 187 = u187 := hold 187 (by kernel_rfl)
                have f188 : s 188 = u188 := hold 188 (by kernel_rfl)
                have f189 : s 189 = u189 := hold 189 (by kernel_rfl)
                have f190 : s 190 = u190 := hold 190 (by kernel_rfl)
                have f191 : s 191 = u191 := hold 191 (by kernel_rfl)
                have f192 : s 192 = u192 := hold 192 (by kernel_rfl)
                have f193 : s 193 = u193 := hold 193 (by kernel_rfl)
                have f194 : s 194 = u194 := hold 194 (by kernel_rfl)
                have f195 : s 195 = u195 := hold 195 (by kernel_rfl)
                have f196 : s 196 = u196 := hold 196 (by kernel_rfl)
                have f197 : s 197 = u197 := hold 197 (by kernel_rfl)
                have f198 : s 198 = u198 := hold 198 (by kernel_rfl)
                have f199 : s 199 = u199 := hold 199 (by kernel_rfl)
                have f200 : s 200 = u200 := hold 200 (by kernel_rfl)
                have f201 : s 201 = u201 := hold 201 (by kernel_rfl)
                have f202 : s 202 = u202 := hold 202 (by kernel_rfl)
                have f203 : s 203 = u203 := hold 203 (by kernel_rfl)
                have f204 : s 204 = u204 := hold 204 (by kernel_rfl)
                have f205 : s 205 = u205 := hold 205 (by kernel_rfl)
                have f206 : s 206 = u206 := hold 206 (by kernel_rfl)
                have f207 : s 207 = u207 := hold 207 (by kernel_rfl)
                have f208 : s 208 = u208 := hold 208 (by kernel_rfl)
                have f209 : s 209 = u209 := hold 209 (by kernel_rfl)
                have f210 : s 210 = u210 := hold 210 (by kernel_rfl)
                have f211 : s 211 = u211 := hold 211 (by kernel_rfl)
                have f212 : s 212 = u212 := hold 212 (by kernel_rfl)
                have f213 : s 213 = u213 := hold 213 (by kernel_rfl)
                have f214 : s 214 = u214 := hold 214 (by kernel_rfl)
                have f215 : s 215 = u215 := hold 215 (by kernel_rfl)
                have f216 : s 216 = u216 := hold 216 (by kernel_rfl)
                have f161 : s 161 = .slice (some ⟨ba, oa, none⟩) fn dc := hnew 0 161 (by kernel_rfl)
                have f162 : s 162 = .int .i64 (ii : Int) := hnew 1 162 (by kernel_rfl)
                have f163 : s 163 = .pointer (some ⟨ba, oa + ii * 2, none⟩) := hnew 2 163 (by kernel_rfl)
                have f164 : s 164 = .pointer (some ⟨ba, oa + ii * 2, none⟩) := hnew 3 164 (by kernel_rfl)
                have f165 : s 165 = .string nm := hnew 4 165 (by kernel_rfl)
                have f166 : s 166 = .slice (some ⟨bb, ob, none⟩) fn fc := hnew 5 166 (by kernel_rfl)
                have f167 : s 167 = .int .i64 (ii : Int) := hnew 6 167 (by kernel_rfl)
                have f168 : s 168 = .pointer (some ⟨bb, ob + ii * 2, none⟩) := hnew 7 168 (by kernel_rfl)
                have f169 : s 169 = .pointer (some ⟨bb, ob + ii * 2, none⟩) := hnew 8 169 (by kernel_rfl)
                have f170 : s 170 = .string nm := hnew 9 170 (by kernel_rfl)
                have f171 : s 171 = .bool false := hnew 10 171 (by kernel_rfl)
                have f172 : s 172 = .bool false := hnew 11 172 (by kernel_rfl)
                have f173 : s 173 = .slice (some ⟨ba, oa, none⟩) fn dc := hnew 12 173 (by kernel_rfl)
                have f174 : s 174 = .int .i64 (ii : Int) := hnew 13 174 (by kernel_rfl)
                have f175 : s 175 = .pointer (some ⟨ba, oa + ii * 2, none⟩) := hnew 14 175 (by kernel_rfl)
                have f176 : s 176 = .pointer (some ⟨ba, oa + ii * 2 + 1, none⟩) := hnew 15 176 (by kernel_rfl)
                have f177 : s 177 = .slice d1.A d1.rows.length d1.cap := hnew 16 177 (by kernel_rfl)
                have f178 : s 178 = .slice (some ⟨bb, ob, none⟩) fn fc := hnew 17 178 (by kernel_rfl)
                have f179 : s 179 = .int .i64 (ii : Int) := hnew 18 179 (by kernel_rfl)
                have f180 : s 180 = .pointer (some ⟨bb, ob + ii * 2, none⟩) := hnew 19 180 (by kernel_rfl)
                have f181 : s 181 = .pointer (some ⟨bb, ob + ii * 2 + 1, none⟩) := hnew 20 181 (by kernel_rfl)
                have f182 : s 182 = .slice d2.A d2.rows.length d2.cap := hnew 21 182 (by kernel_rfl)
                have f183 : s 183 = .bool true := hnew 22 183 (by kernel_rfl)
                have f184 : s 184 = .bool false := hnew 23 184 (by kernel_rfl)
                have f185 : s 185 = .bool false := hnew 24 185 (by kernel_rfl)
                change Exit.then _ _ .normal ⟨#[s 0, s 1, s 2, s 3, s 4, s 5, s 6, s 7, s 8, s 9, s 10, s 11, s 12, s 13, s 14, s 15, s 16, s 17, s 18, s 19, s 20, s 21, s 22, s 23, s 24, s 25, s 26, s 27, s 28, s 29, s 30, s 31, s 32, s 33, s 34, s 35, s 36, s 37, s 38, s 39, s 40, s 41, s 42, s 43, s 44, s 45, s 46, s 47, s 48, s 49, s 50, s 51, s 52, s 53, s 54, s 55, s 56, s 57, s 58, s 59, s 60, s 61, s 62, s 63, s 64, s 65, s 66, s 67, s 68, s 69, s 70, s 71, s 72, s 73, s 74, s 75, s 76, s 77, s 78, s 79, s 80, s 81, s 82, s 83, s 84, s 85, s 86, s 87, s 88, s 89, s 90, s 91, s 92, s 93, s 94, s 95, s 96, s 97, s 98, s 99, s 100, s 101, s 102, s 103, s 104, s 105, s 106, s 107, s 108, s 109, s 110, s 111, s 112, s 113, s 114, s 115, s 116, s 117, s 118, s 119, s 120, s 121, s 122, s 123, s 124, s 125, s 126, s 127, s 128, s 129, s 130, s 131, s 132, s 133, s 134, s 135, s 136, s 137, s 138, s 139, s 140, s 141, s 142, s 143, s 144, s 145, s 146, s 147, s 148, s 149, s 150, s 151, s 152, s 153, s 154, s 155, s 156, s 157, s 158, s 159, s 160, s 161, s 162, s 163, s 164, s 165, s 166, s 167, s 168, s 169, s 170, s 171, s 172, s 173, s 174, s 175, s 176, s 177, s 178, s 179, s 180, s 181, s 182, s 183, s 184, s 185, s 186, s 187, s 188, s 189, s 190, s 191, s 192, s 193, s 194, s 195, s 196, s 197, s 198, s 199, s 200, s 201, s 202, s 203, s 204, s 205, s 206, s 207, s 208, s 209, s 210, s 211, s 212, s 213, s 214, s 215, s 216], _⟩ _
                simp only [f0, f1, f2, f3, f4, f5, f7, f8, f9, f10, f11, f12, f13, f14, f15, f16, f17, f18, f19, f20, f21, f22, f23, f24, f25, f26, f27, f28, f29, f30, f31, f32, f33, f34, f35, f36, f37, f38, f39, f40, f41, f42, f43, f44, f45, f46, f47, f48, f49, f50, f51, f52, f53, f54, f55, f56, f57, f58, f59, f60, f61, f62, f63, f64, f65, f66, f67, f68, f69, f70, f71, f72, f73, f74, f75, f76, f77, f78, f79, f80, f81, f82, f83, f84, f85, f86, f87, f88, f89, f90, f91, f92, f93, f94, f95, f96, f97, f98, f99, f100, f101, f102, f103, f104, f105, f106, f107, f108, f109, f110, f111, f112, f113, f114, f115, f116, f117, f118, f119, f120, f121, f122, f123, f124, f125, f126, f127, f128, f129, f130, f131, f132, f133, f134, f135, f136, f137, f138, f139, f140, f141, f142, f143, f144, f145, f146, f147, f148, f149, f150, f151, f152, f153, f154, f186, f187, f188, f189, f190, f191, f192, f193, f194, f195, f196, f197, f198, f199, f200, f201, f202, f203, f204, f205, f206, f207, f208, f209, f210, f211, f212, f213, f214, f215, f216, f161, f162, f163, f164, f165, f166, f167, f168, f169, f170, f171, f172, f173, f174, f175, f176, f177, f178, f179, f180, f181, f182, f183, f184, f185]
                clear hold hnew
                -- behind 27
                go_wp2
                exact ⟨⟨ii + 1, by simp, by omega, HEq.out.trans hE⟩, by simp [intOf]; omega⟩
              · have hif : ii = fn := by omega
                clear hif
                have HEq := Lib.hid hEq
                clear hEq
                have HAX := Lib.hid (show ∀ q f, netS f (rowsQ q nU nT) = netS f (rowsQ q aU aT) from fun q f => by
                  have h1 := HGa.out.bh.sum q f
                  have h2 := HGm.out.bh.sum q f
                  have h3 := HGn.out.bh.sum q f
                  have h4 : chS q Z f = chS q ((L.take c).map (CM.re false)) f + chS q ((L.drop c).map (CM.re false)) f := by
                    rw [← chS_append, ← List.map_append, List.take_append_drop, HZL.out]
                  omega)
                have HBX := Lib.hid (show ∀ q f, netS f (rowsQ q bU bT) = netS f (rowsQ q aU aT) from fun q f => by
                  have h1 := HGa.out.bh.sum q f
                  have h2 := HGb.out.bh.sum q f
                  have h3 := chS_reverse q f Z
                  omega)
                go_upto_region 29 with fail
                go_cut [13, 17, 26, 31] from 0 (fun v13 v17 v26 v31 wx => v13 = .slice (some ⟨ga, 0, none⟩) 2 ca ∧ v17 = .slice (some ⟨gb, 0, none⟩) 2 cb ∧ v26 = .slice (some ⟨gn, 0, none⟩) 2 cn ∧ v31 = .int .i64 0 ∧ wx = wq)
                case first =>
                  go_wp2
                  go_meet
                  exact ⟨rfl, rfl, rfl, rfl, rfl⟩
                case rest =>
                rename World => wq0
                obtain ⟨rfl, rfl, rfl, rfl, rfl⟩ := hcut
                go_upto_region 30 with fail
                go_loopw [31] (fun iv wr4 => ∃ ii : Nat, iv = .int .i64 (ii : Int) ∧ ii ≤ 2 ∧ Ev wn wr4) (fun iv _ => 2 - (intOf iv).toNat)
                case atStart => exact ⟨0, rfl, Nat.zero_le _, HEq.out⟩
                case round =>
                rename World => wq
                obtain ⟨ii, rfl, hii, hEq⟩ := hrel
                by_cases hki : ii < 2
                · obtain ⟨q, RA, RB, RN, hA_, hB_, hN_, eA, eB, eN⟩ : ∃ (q : Bool) (RA RB RN : TM), [aU, aT][ii]? = some RA ∧ [bU, bT][ii]? = some RB ∧ [nU, nT][ii]? = some RN ∧ RA.rows = rowsQ q aU aT ∧ RB.rows = rowsQ q bU bT ∧ RN.rows = rowsQ q nU nT := by
                    match ii, hki with
                    | 0, _ => exact ⟨false, aU, bU, nU, rfl, rfl, rfl, rfl, rfl, rfl⟩
                    | 1, _ => exact ⟨true, aT, bT, nT, rfl, rfl, rfl, rfl, rfl, rfl⟩
                  have hAok := HGa.out.bh.ut.rows q
                  have hBok := HGb.out.bh.ut.rows q
                  have hNok := HGn.out.bh.ut.rows q
                  have eAB : RA.rows = RB.rows := by rw [eA, eB]; exact hAok.z.same hBok.z fun f => (HBX.out q f).symm
                  have eAN : RA.rows = RN.rows := by rw [eA, eN]; exact hAok.z.same hNok.z fun f => (HAX.out q f).symm
                  rw [← eB] at hBok
                  rw [← eN] at hNok
                  obtain ⟨_, _, e1, hga, _, _, a2⟩ := (HGaN.out.ts.ev hEq).cell hA_
                  obtain ⟨_, _, e2, hgb, _, _, b2⟩ := (HGbN.out.ts.ev hEq).cell hB_
                  obtain ⟨_, _, e3, hgn, _, _, n2_⟩ := (HGn.out.ts.ev hEq).cell hN_
                  simp only [Option.some.injEq, Addr.mk.injEq, and_true] at e1 e2 e3
                  obtain ⟨rfl, rfl⟩ := e1
                  obtain ⟨rfl, rfl⟩ := e2
                  obtain ⟨rfl, rfl⟩ := e3
                  simp only [Nat.zero_add] at a2 b2 n2_
                  have HSB := Lib.hid (fun w4 (hE : Ev wq w4) => same_z w4 ((((HGaN.out.ts.ev hEq).each RA (List.mem_of_getElem? hA_))).rows) (((HGbN.out.ts.ev hEq).each RB (List.mem_of_getElem? hB_)).rows) eAB hE hBok.z)
                  have HSN := Lib.hid (fun w4 (hE : Ev wq w4) => same_z w4 ((((HGaN.out.ts.ev hEq).each RA (List.mem_of_getElem? hA_))).rows) (((HGn.out.ts.ev hEq).each RN (List.mem_of_getElem? hN_)).rows) eAN hE hNok.z)
                  unfold Yes at HSB HSN
                  have HEq2 := Lib.hid hEq
                  have hi2b : (ii : Int) < 2 := by omega
                  clear hA_ hB_ hN_ eA eB eN hAok hBok hNok eAB eAN hEq
                  go_upto_region 32 with fail
                  -- region 32
                  refine wp_region_slots hmix [fun v _ => v = .slice (some ⟨ga, 0, none⟩) 2 ca, fun v _ => v = .int .i64 (ii : Int), fun v _ => v = .pointer (some ⟨ga, ii * 3, none⟩), fun v _ => v = .pointer (some ⟨ga, ii * 3 + 2, none⟩), fun v _ => v = .slice RA.rA RA.rows.length RA.rc, fun v _ => v = .slice (some ⟨gb, 0, none⟩) 2 cb, fun v _ => v = .int .i64 (ii : Int), fun v _ => v = .pointer (some ⟨gb, ii * 3, none⟩), fun v _ => v = .pointer (some ⟨gb, ii * 3 + 2, none⟩), fun v _ => v = .slice RB.rA RB.rows.length RB.rc, fun v _ => v = .bool true, fun v _ => v = .bool false, fun v _ => v = .bool false, fun v _ => v = .slice (some ⟨ga, 0, none⟩) 2 ca, fun v _ => v = .int .i64 (ii : Int), fun v _ => v = .pointer (some ⟨ga, ii * 3, none⟩), fun v _ => v = .pointer (some ⟨ga, ii * 3 + 2, none⟩), fun v _ => v = .slice RA.rA RA.rows.length RA.rc, fun v _ => v = .slice (some ⟨gn, 0, none⟩) 2 cn, fun v _ => v = .int .i64 (ii : Int), fun v _ => v = .pointer (some ⟨gn, ii * 3, none⟩), fun v _ => v = .pointer (some ⟨gn, ii * 3 + 2, none⟩), fun v _ => v = .slice RN.rA RN.rows.length RN.rc, fun v _ => v = .bool true, fun v _ => v = .bool false, fun v _ => v = .bool false]
                    217 rfl (by kernel_rfl) ⟨mono_eq _, mono_eq _, mono_eq _, mono_eq _, mono_eq _, mono_eq _, mono_eq _, mono_eq _, mono_eq _, mono_eq _, mono_eq _, mono_eq _, mono_eq _, mono_eq _, mono_eq _, mono_eq _, mono_eq _, mono_eq _, mono_eq _, mono_eq _, mono_eq _, mono_eq _, mono_eq _, mono_eq _, mono_eq _, mono_eq _, trivial⟩ ?_ ?_
                  · refine ops_cons 0 ?_ (ops_cons 1 ?_ (ops_cons 2 ?_ (ops_cons 3 ?_ (ops_cons 4 ?_ (ops_cons 5 ?_ (ops_cons 6 ?_ (ops_cons 7 ?_ (ops_cons 8 ?_ (ops_cons 9 ?_ (ops_cons 10 ?_ (ops_cons 11 ?_ (ops_cons 12 ?_ (ops_cons 13 ?_ (ops_cons 14 ?_ (ops_cons 15 ?_ (ops_cons 16 ?_ (ops_cons 17 ?_ (ops_cons 18 ?_ (ops_cons 19 ?_ (ops_cons 20 ?_ (ops_cons 21 ?_ (ops_cons 22 ?_ (ops_cons 23 ?_ (ops_cons 24 ?_ (ops_cons 25 ?_ (ops_nil 26))))))))))))))))))))))))))
                    · refine op_value fun a wq c => ⟨(wanted_plain rfl), _, run_move _ rfl wq, (c.was 13 (by kernel_rfl) rfl)⟩
                    · refine op_value fun a wq c => ⟨(wanted_plain rfl), _, run_move _ rfl wq, (c.was 31 (by kernel_rfl) rfl)⟩
                    · refine op_value fun a wq c => ⟨(wanted_plain rfl), .pointer (some ⟨ga, ii * 3, none⟩), ?_, rfl⟩
                      have e190 : a.eval (.tmp 190) = .slice (some ⟨ga, 0, none⟩) 2 ca := (c.new 0 190 (by kernel_rfl) (by kernel_rfl))
                      have e191 : a.eval (.tmp 191) = .int .i64 (ii : Int) := (c.new 1 191 (by kernel_rfl) (by kernel_rfl))
                      generalize a.eval = ρ at e190 e191 ⊢
                      simp [execOp, e190, e191, go_sem, hi2b]
                    · refine op_value fun a wq c => ⟨(wanted_plain rfl), .pointer (some ⟨ga, ii * 3 + 2, none⟩), ?_, rfl⟩
                      have e192 : a.eval (.tmp 192) = .pointer (some ⟨ga, ii * 3, none⟩) := (c.new 2 192 (by kernel_rfl) (by kernel_rfl))
                      generalize a.eval = ρ at e192 ⊢
                      simp [execOp, e192, go_sem]
                    · refine op_value fun a wq c => ⟨(wanted_plain rfl), .slice RA.rA RA.rows.length RA.rc, ?_, rfl⟩
                      have e193 : a.eval (.tmp 193) = .pointer (some ⟨ga, ii * 3 + 2, none⟩) := (c.new 3 193 (by kernel_rfl) (by kernel_rfl))
                      have hc := (c.ev.cell (p := ⟨ga, ii * 3 + 2, none⟩) hga).trans a2
                      generalize a.eval = ρ at e193 ⊢
                      simp [execOp, e193, hc, go_sem]
                    · refine op_value fun a wq c => ⟨(wanted_plain rfl), _, run_move _ rfl wq, (c.was 17 (by kernel_rfl) rfl)⟩
                    · refine op_value fun a wq c => ⟨(wanted_plain rfl), _, run_move _ rfl wq, (c.was 31 (by kernel_rfl) rfl)⟩
                    · refine op_value fun a wq c => ⟨(wanted_plain rfl), .pointer (some ⟨gb, ii * 3, none⟩), ?_, rfl⟩
                      have e195 : a.eval (.tmp 195) = .slice (some ⟨gb, 0, none⟩) 2 cb := (c.new 5 195 (by kernel_rfl) (by kernel_rfl))
                      have e196 : a.eval (.tmp 196) = .int .i64 (ii : Int) := (c.new 6 196 (by kernel_rfl) (by kernel_rfl))
                      generalize a.eval = ρ at e195 e196 ⊢
                      simp [execOp, e195, e196, go_sem, hi2b]
                    · refine op_value fun a wq c => ⟨(wanted_plain rfl), .pointer (some ⟨gb, ii * 3 + 2, none⟩), ?_, rfl⟩
                      have e197 : a.eval (.tmp 197) = .pointer (some ⟨gb, ii * 3, none⟩) := (c.new 7 197 (by kernel_rfl) (by kernel_rfl))
                      generalize a.eval = ρ at e197 ⊢
                      simp [execOp, e197, go_sem]
                    · refine op_value fun a wq c => ⟨(wanted_plain rfl), .slice RB.rA RB.rows.length RB.rc, ?_, rfl⟩
                      have e198 : a.eval (.tmp 198) = .pointer (some ⟨gb, ii * 3 + 2, none⟩) := (c.new 8 198 (by kernel_rfl) (by kernel_rfl))
                      have hc := (c.ev.cell (p := ⟨gb, ii * 3 + 2, none⟩) hgb).trans b2
                      generalize a.eval = ρ at e198 ⊢
                      simp [execOp, e198, hc, go_sem]
                    · refine op_call fun a wq c => ⟨(wanted_plain rfl), 22, #[.slice RA.rA RA.rows.length RA.rc, .slice RB.rA RB.rows.length RB.rc], ?_, ?_⟩
                      · rw [run_call 22 _ _ rfl (by kernel_rfl)]
                        have e194 : a.eval (.tmp 194) = .slice RA.rA RA.rows.length RA.rc := (c.new 4 194 (by kernel_rfl) (by kernel_rfl))
                        have e199 : a.eval (.tmp 199) = .slice RB.rA RB.rows.length RB.rc := (c.new 9 199 (by kernel_rfl) (by kernel_rfl))
                        simp [e194, e199]
                      · refine (HSB.out _ c.ev).mono ?_
                        rintro e wp ⟨rfl, hE_⟩
                        exact ⟨_, rfl, hE_, rfl⟩
                    · refine op_value fun a wq c => ⟨(wanted_plain rfl), .bool false, ?_, rfl⟩
                      have e200 : a.eval (.tmp 200) = .bool true := (c.new 10 200 (by kernel_rfl) (by kernel_rfl))
                      generalize a.eval = ρ at e200 ⊢
                      simp [execOp, e200, go_sem]
                    · refine op_value fun a wq c => ⟨(wanted_plain rfl), _, run_move _ rfl wq, (c.new 11 201 (by kernel_rfl) (by kernel_rfl))⟩
                    · refine op_value fun a wq c => ⟨(wanted_yes rfl (by kernel_rfl) (c.new 12 202 (by kernel_rfl) (by kernel_rfl))), _, run_move _ rfl wq, (c.was 13 (by kernel_rfl) rfl)⟩
                    · refine op_value fun a wq c => ⟨(wanted_yes rfl (by kernel_rfl) (c.new 12 202 (by kernel_rfl) (by kernel_rfl))), _, run_move _ rfl wq, (c.was 31 (by kernel_rfl) rfl)⟩
                    · refine op_value fun a wq c => ⟨(wanted_yes rfl (by kernel_rfl) (c.new 12 202 (by kernel_rfl) (by kernel_rfl))), .pointer (some ⟨ga, ii * 3, none⟩), ?_, rfl⟩
                      have e203 : a.eval (.tmp 203) = .slice (some ⟨ga, 0, none⟩) 2 ca := (c.new 13 203 (by kernel_rfl) (by kernel_rfl))
                      have e204 : a.eval (.tmp 204) = .int .i64 (ii : Int) := (c.new 14 204 (by kernel_rfl) (by kernel_rfl))
                      generalize a.eval = ρ at e203 e204 ⊢
                      simp [execOp, e203, e204, go_sem, hi2b]
                    · refine op_value fun a wq c => ⟨(wanted_yes rfl (by kernel_rfl) (c.new 12 202 (by kernel_rfl) (by kernel_rfl))), .pointer (some ⟨ga, ii * 3 + 2, none⟩), ?_, rfl⟩
                      have e205 : a.eval (.tmp 205) = .pointer (some ⟨ga, ii * 3, none⟩) := (c.new 15 205 (by kernel_rfl) (by kernel_rfl))
                      generalize a.eval = ρ at e205 ⊢
                      simp [execOp, e205, go_sem]
                    · refine op_value fun a wq c => ⟨(wanted_yes rfl (by kernel_rfl) (c.new 12 202 (by kernel_rfl) (by kernel_rfl))), .slice RA.rA RA.rows.length RA.rc, ?_, rfl⟩
                      have e206 : a.eval (.tmp 206) = .pointer (some ⟨ga, ii * 3 + 2, none⟩) := (c.new 16 206 (by kernel_rfl) (by kernel_rfl))
                      have hc := (c.ev.cell (p := ⟨ga, ii * 3 + 2, none⟩) hga).trans a2
                      generalize a.eval = ρ at e206 ⊢
                      simp [execOp, e206, hc, go_sem]
                    · refine op_value fun a wq c => ⟨(wanted_yes rfl (by kernel_rfl) (c.new 12 202 (by kernel_rfl) (by kernel_rfl))), _, run_move _ rfl wq, (c.was 26 (by kernel_rfl) rfl)⟩
                    · refine op_value fun a wq c => ⟨(wanted_yes rfl (by kernel_rfl) (c.new 12 202 (by kernel_rfl) (by kernel_rfl))), _, run_move _ rfl wq, (c.was 31 (by kernel_rfl) rfl)⟩
                    · refine op_value fun a wq c => ⟨(wanted_yes rfl (by kernel_rfl) (c.new 12 202 (by kernel_rfl) (by kernel_rfl))), .pointer (some ⟨gn, ii * 3, none⟩), ?_, rfl⟩
                      have e208 : a.eval (.tmp 208) = .slice (some ⟨gn, 0, none⟩) 2 cn := (c.new 18 208 (by kernel_rfl) (by kernel_rfl))
                      have e209 : a.eval (.tmp 209) = .int .i64 (ii : Int) := (c.new 19 209 (by kernel_rfl) (by kernel_rfl))
                      generalize a.eval = ρ at e208 e209 ⊢
                      simp [execOp, e208, e209, go_sem, hi2b]
                    · refine op_value fun a wq c => ⟨(wanted_yes rfl (by kernel_rfl) (c.new 12 202 (by kernel_rfl) (by kernel_rfl))), .pointer (some ⟨gn, ii * 3 + 2, none⟩), ?_, rfl⟩
                      have e210 : a.eval (.tmp 210) = .pointer (some ⟨gn, ii * 3, none⟩) := (c.new 20 210 (by kernel_rfl) (by kernel_rfl))
                      generalize a.eval = ρ at e210 ⊢
                      simp [execOp, e210, go_sem]
                    · refine op_value fun a wq c => ⟨(wanted_yes rfl (by kernel_rfl) (c.new 12 202 (by kernel_rfl) (by kernel_rfl))), .slice RN.rA RN.rows.length RN.rc, ?_, rfl⟩
                      have e211 : a.eval (.tmp 211) = .pointer (some ⟨gn, ii * 3 + 2, none⟩) := (c.new 21 211 (by kernel_rfl) (by kernel_rfl))
                      have hc := (c.ev.cell (p := ⟨gn, ii * 3 + 2, none⟩) hgn).trans n2_
                      generalize a.eval = ρ at e211 ⊢
                      simp [execOp, e211, hc, go_sem]
                    · refine op_call fun a wq c => ⟨(wanted_yes rfl (by kernel_rfl) (c.new 12 202 (by kernel_rfl) (by kernel_rfl))), 22, #[.slice RA.rA RA.rows.length RA.rc, .slice RN.rA RN.rows.length RN.rc], ?_, ?_⟩
                      · rw [run_call 22 _ _ rfl (by kernel_rfl)]
                        have e207 : a.eval (.tmp 207) = .slice RA.rA RA.rows.length RA.rc := (c.new 17 207 (by kernel_rfl) (by kernel_rfl))
                        have e212 : a.eval (.tmp 212) = .slice RN.rA RN.rows.length RN.rc := (c.new 22 212 (by kernel_rfl) (by kernel_rfl))
                        simp [e207, e212]
                      · refine (HSN.out _ c.ev).mono ?_
                        rintro e wp ⟨rfl, hE_⟩
                        exact ⟨_, rfl, hE_, rfl⟩
                    · refine op_value fun a wq c => ⟨(wanted_yes rfl (by kernel_rfl) (c.new 12 202 (by kernel_rfl) (by kernel_rfl))), .bool false, ?_, rfl⟩
                      have e213 : a.eval (.tmp 213) = .bool true := (c.new 23 213 (by kernel_rfl) (by kernel_rfl))
                      generalize a.eval = ρ at e213 ⊢
                      simp [execOp, e213, go_sem]
                    · refine op_value fun a wq c => ⟨(wanted_plain rfl), _, run_pick_false rfl (c.new 12 202 (by kernel_rfl) (by kernel_rfl)) wq, (c.new 24 214 (by kernel_rfl) (by kernel_rfl))⟩
                  intro s w4 hE hold hnew
                  have f0 : s 0 = u0 := hold 0 (by kernel_rfl)
                  have f1 : s 1 = u1 := hold 1 (by kernel_rfl)
                  have f2 : s 2 = u2 := hold 2 (by kernel_rfl)
                  have f3 : s 3 = u3 := hold 3 (by kernel_rfl)
                  have f4 : s 4 = u4 := hold 4 (by kernel_rfl)
                  have f5 : s 5 = u5 := hold 5 (by kernel_rfl)
                  have f7 : s 7 = u7 := hold 7 (by kernel_rfl)
                  have f8 : s 8 = u8 := hold 8 (by kernel_rfl)
                  have f9 : s 9 = u9 := hold 9 (by kernel_rfl)
                  have f10 : s 10 = u10 := hold 10 (by kernel_rfl)
                  have f11 : s 11 = u11 := hold 11 (by kernel_rfl)
                  have f12 : s 12 = u12 := hold 12 (by kernel_rfl)
                  have f13 : s 13 = .slice (some ⟨ga, 0, none⟩) 2 ca := hold 13 (by kernel_rfl)
                  have f14 : s 14 = u14 := hold 14 (by kernel_rfl)
                  have f15 : s 15 = u15 := hold 15 (by kernel_rfl)
                  have f16 : s 16 = u16 := hold 16 (by kernel_rfl)
                  have f17 : s 17 = .slice (some ⟨gb, 0, none⟩) 2 cb := hold 17 (by kernel_rfl)
                  have f18 : s 18 = u18 := hold 18 (by kernel_rfl)
                  have f19 : s 19 = u19 := hold 19 (by kernel_rfl)
                  have f20 : s 20 = u20 := hold 20 (by kernel_rfl)
                  have f21 : s 21 = u21 := hold 21 (by kernel_rfl)
                  have f22 : s 22 = u22 := hold 22 (by kernel_rfl)
                  have f23 : s 23 = u23 := hold 23 (by kernel_rfl)
                  have f24 : s 24 = u24 := hold 24 (by kernel_rfl)
                  have f25 : s 25 = u25 := hold 25 (by kernel_rfl)
                  have f26 : s 26 = .slice (some ⟨gn, 0, none⟩) 2 cn := hold 26 (by kernel_rfl)
                  have f27 : s 27 = u27 := hold 27 (by kernel_rfl)
                  have f28 : s 28 = u28 := hold 28 (by kernel_rfl)
                  have f29 : s 29 = u29 := hold 29 (by kernel_rfl)
                  have f30 : s 30 = u30 := hold 30 (by kernel_rfl)
                  have f31 : s 31 = .int .i64 (ii : Int) := hold 31 (by kernel_rfl)
                  have f32 : s 32 = u32 := hold 32 (by kernel_rfl)
                  have f33 : s 33 = u33 := hold 33 (by kernel_rfl)
                  have f34 : s 34 = u34 := hold 34 (by kernel_rfl)
                  have f35 : s 35 = u35 := hold 35 (by kernel_rfl)
                  have f36 : s 36 = u36 := hold 36 (by kernel_rfl)
                  have f37 : s 37 = u37 := hold 37 (by kernel_rfl)
                  have f38 : s 38 = u38 := hold 38 (by kernel_rfl)
                  have f39 : s 39 = u39 := hold 39 (by kernel_rfl)
                  have f40 : s 40 = u40 := hold 40 (by kernel_rfl)
                  have f41 : s 41 = u41 := hold 41 (by kernel_rfl)
                  have f42 : s 42 = u42 := hold 42 (by kernel_rfl)
                  have f43 : s 43 = u43 := hold 43 (by kernel_rfl)
                  have f44 : s 44 = u44 := hold 44 (by kernel_rfl)
                  have f45 : s 45 = u45 := hold 45 (by kernel_rfl)
                  have f46 : s 46 = u46 := hold 46 (by kernel_rfl)
                  have f47 : s 47 = u47 := hold 47 (by kernel_rfl)
                  have f48 : s 48 = u48 := hold 48 (by kernel_rfl)
                  have f49 : s 49 = u49 := hold 49 (by kernel_rfl)
                  have f50 : s 50 = u50 := hold 50 (by kernel_rfl)
                  have f51 : s 51 = u51 := hold 51 (by kernel_rfl)
                  have f52 : s 52 = u52 := hold 52 (by kernel_rfl)
                  have f53 : s 53 = u53 := hold 53 (by kernel_rfl)
                  have f54 : s 54 = u54 := hold 54 (by kernel_rfl)
                  have f55 : s 55 = u55 := hold 55 (by kernel_rfl)
                  have f56 : s 56 = u56 := hold 56 (by kernel_rfl)
                  have f57 : s 57 = u57 := hold 57 (by kernel_rfl)
                  have f58 : s 58 = u58 := hold 58 (by kernel_rfl)
                  have f59 : s 59 = u59 := hold 59 (by kernel_rfl)
                  have f60 : s 60 = u60 := hold 60 (by kernel_rfl)
                  have f61 : s 61 = u61 := hold 61 (by kernel_rfl)
                  have f62 : s 62 = u62 := hold 62 (by kernel_rfl)
                  have f63 : s 63 = u63 := hold 63 (by kernel_rfl)
                  have f64 : s 64 = u64 := hold 64 (by kernel_rfl)
                  have f65 : s 65 = u65 := hold 65 (by kernel_rfl)
                  have f66 : s 66 = u66 := hold 66 (by kernel_rfl)
                  have f67 : s 67 = u67 := hold 67 (by kernel_rfl)
                  have f68 : s 68 = u68 := hold 68 (by kernel_rfl)
                  have f69 : s 69 = u69 := hold 69 (by kernel_rfl)
                  have f70 : s 70 = u70 := hold 70 (by kernel_rfl)
                  have f71 : s 71 = u71 := hold 71 (by kernel_rfl)
                  have f72 : s 72 = u72 := hold 72 (by kernel_rfl)
                  have f73 : s 73 = u73 := hold 73 (by kernel_rfl)
                  have f74 : s 74 = u74 := hold 74 (by kernel_rfl)
                  have f75 : s 75 = u75 := hold 75 (by kernel_rfl)
                  have f76 : s 76 = u76 := hold 76 (by kernel_rfl)
                  have f77 : s 77 = u77 := hold 77 (by kernel_rfl)
                  have f78 : s 78 = u78 := hold 78 (by kernel_rfl)
                  have f79 : s 79 = u79 := hold 79 (by kernel_rfl)
                  have f80 : s 80 = u80 := hold 80 (by kernel_rfl)
                  have f81 : s 81 = u81 := hold 81 (by kernel_rfl)
                  have f82 : s 82 = u82 := hold 82 (by kernel_rfl)
                  have f83 : s 83 = u83 := hold 83 (by kernel_rfl)
                  have f84 : s 84 = u84 := hold 84 (by kernel_rfl)
                  have f85 : s 85 = u85 := hold 85 (by kernel_rfl)
                  have f86 : s 86 = u86 := hold 86 (by kernel_rfl)
                  have f87 : s 87 = u87 := hold 87 (by kernel_rfl)
                  have f88 : s 88 = u88 := hold 88 (by kernel_rfl)
                  have f89 : s 89 = u89 := hold 89 (by kernel_rfl)
                  have f90 : s 90 = u90 := hold 90 (by kernel_rfl)
                  have f91 : s 91 = u91 := hold 91 (by kernel_rfl)
                  have f92 : s 92 = u92 := hold 92 (by kernel_rfl)
                  have f93 : s 93 = u93 := hold 93 (by kernel_rfl)
                  have f94 : s 94 = u94 := hold 94 (by kernel_rfl)
                  have f95 : s 95 = u95 := hold 95 (by kernel_rfl)
                  have f96 : s 96 = u96 := hold 96 (by kernel_rfl)
                  have f97 : s 97 = u97 := hold 97 (by kernel_rfl)
                  have f98 : s 98 = u98 := hold 98 (by kernel_rfl)
                  have f99 : s 99 = u99 := hold 99 (by kernel_rfl)
                  have f100 : s 100 = u100 := hold 100 (by kernel_rfl)
                  have f101 : s 101 = u101 := hold 101 (by kernel_rfl)
                  have f102 : s 102 = u102 := hold 102 (by kernel_rfl)
                  have f103 : s 103 = u103 := hold 103 (by kernel_rfl)
                  have f104 : s 104 = u104 := hold 104 (by kernel_rfl)
                  have f105 : s 105 = u105 := hold 105 (by kernel_rfl)
                  have f106 : s 106 = u106 := hold 106 (by kernel_rfl)
                  have f107 : s 107 = u107 := hold 107 (by kernel_rfl)
                  have f108 : s 108 = u108 := hold 108 (by kernel_rfl)
                  have f109 : s 109 = u109 := hold 109 (by kernel_rfl)
                  have f110 : s 110 = u110 := hold 110 (by kernel_rfl)
                  have f111 : s 111 = u111 := hold 111 (by kernel_rfl)
                  have f112 : s 112 = u112 := hold 112 (by kernel_rfl)
                  have f113 : s 113 = u113 := hold 113 (by kernel_rfl)
                  have f114 : s 114 = u114 := hold 114 (by kernel_rfl)
                  have f115 : s 115 = u115 := hold 115 (by kernel_rfl)
                  have f116 : s 116 = u116 := hold 116 (by kernel_rfl)
                  have f117 : s 117 = u117 := hold 117 (by kernel_rfl)
                  have f118 : s 118 = u118 := hold 118 (by kernel_rfl)
                  have f119 : s 119 = u119 := hold 119 (by kernel_rfl)
                  have f120 : s 120 = u120 := hold 120 (by kernel_rfl)
                  have f121 : s 121 = u121 := hold 121 (by kernel_rfl)
                  have f122 : s 122 = u122 := hold 122 (by kernel_rfl)
                  have f123 : s 123 = u123 := hold 123 (by kernel_rfl)
                  have f124 : s 124 = u124 := hold 124 (by kernel_rfl)
                  have f125 : s 125 = u125 := hold 125 (by kernel_rfl)
                  have f126 : s 126 = u126 := hold 126 (by kernel_rfl)
                  have f127 : s 127 = u127 := hold 127 (by kernel_rfl)
                  have f128 : s 128 = u128 := hold 128 (by kernel_rfl)
                  have f129 : s 129 = u129 := hold 129 (by kernel_rfl)
                  have f130 : s 130 = u130 := hold 130 (by kernel_rfl)
                  have f131 : s 131 = u131 := hold 131 (by kernel_rfl)
                  have f132 : s 132 = u132 := hold 132 (by kernel_rfl)
                  have f133 : s 133 = u133 := hold 133 (by kernel_rfl)
                  have f134 : s 134 = u134 := hold 134 (by kernel_rfl)
                  have f135 : s 135 = u135 := hold 135 (by kernel_rfl)
                  have f136 : s 136 = u136 := hold 136 (by kernel_rfl)
                  have f137 : s 137 = u137 := hold 137 (by kernel_rfl)
                  have f138 : s 138 = u138 := hold 138 (by kernel_rfl)
                  have f139 : s 139 = u139 := hold 139 (by kernel_rfl)
                  have f140 : s 140 = u140 := hold 140 (by kernel_rfl)
                  have f141 : s 141 = u141 := hold 141 (by kernel_rfl)
                  have f142 : s 142 = u142 := hold 142 (by kernel_rfl)
                  have f143 : s 143 = u143 := hold 143 (by kernel_rfl)
                  have f144 : s 144 = u144 := hold 144 (by kernel_rfl)
                  have f145 : s 145 = u145 := hold 145 (by kernel_rfl)
                  have f146 : s 146 = u146 := hold 146 (by kernel_rfl)
                  have f147 : s 147 = u147 := hold 147 (by kernel_rfl)
                  have f148 : s 148 = u148 := hold 148 (by kernel_rfl)
                  have f149 : s 149 = u149 := hold 149 (by kernel_rfl)
                  have f150 : s 150 = u150 := hold 150 (by kernel_rfl)
                  have f151 : s 151 = u151 := hold 151 (by kernel_rfl)
                  have f152 : s 152 = u152 := hold 152 (by kernel_rfl)
                  have f153 : s 153 = u153 := hold 153 (by kernel_rfl)
                  have f154 : s 154 = u154 := hold 154 (by kernel_rfl)
                  have f155 : s 155 = u155 := hold 155 (by kernel_rfl)
                  have f156 : s 156 = u156 := hold 156 (by kernel_rfl)
                  have f157 : s 157 = u157 := hold 157 (by kernel_rfl)
                  have f158 : s 158 = u158 := hold 158 (by kernel_rfl)
                  have f159 : s 159 = u159 := hold 159 (by kernel_rfl)
                  have f160 : s 160 = u160 := hold 160 (by kernel_rfl)
                  have f161 : s 161 = u161 := hold 161 (by kernel_rfl)
                  have f162 : s 162 = u162 := hold 162 (by kernel_rfl)
                  have f163 : s 163 = u163 := hold 163 (by kernel_rfl)
                  have f164 : s 164 = u164 := hold 164 (by kernel_rfl)
                  have f165 : s 165 = u165 := hold 165 (by kernel_rfl)
                  have f166 : s 166 = u166 := hold 166 (by kernel_rfl)
                  have f167 : s 167 = u167 := hold 167 (by kernel_rfl)
                  have f168 : s 168 = u168 := hold 168 (by kernel_rfl)
                  have f169 : s 169 = u169 := hold 169 (by kernel_rfl)
                  have f170 : s 170 = u170 := hold 170 (by kernel_rfl)
                  have f171 : s 171 = u171 := hold 171 (by kernel_rfl)
                  have f172 : s 172 = u172 := hold 172 (by kernel_rfl)
                  have f173 : s 173 = u173 := hold 173 (by kernel_rfl)
                  have f174 : s 174 = u174 := hold 174 (by kernel_rfl)
                  have f175 : s 175 = u175 := hold 175 (by kernel_rfl)
                  have f176 : s 176 = u176 := hold 176 (by kernel_rfl)
                  have f177 : s 177 = u177 := hold 177 (by kernel_rfl)
                  have f178 : s 178 = u178 := hold 178 (by kernel_rfl)
                  have f179 : s 179 = u179 := hold 179 (by kernel_rfl)
                  have f180 : s 180 = u180 := hold 180 (by kernel_rfl)
                  have f181 : s 181 = u181 := hold 181 (by kernel_rfl)
                  have f182 : s 182 = u182 := hold 182 (by kernel_rfl)
                  have f183 : s 183 = u183 := hold 183 (by kernel_rfl)
                  have f184 : s 184 = u184 := hold 184 (by kernel_rfl)
                  have f185 : s 185 = u185 := hold 185 (by kernel_rfl)
                  have f216 : s 216 = u216 := hold 216 (by kernel_rfl)
                  have f190 : s 190 = .slice (some ⟨ga, 0, none⟩) 2 ca := hnew 0 190 (by kernel_rfl)
                  have f191 : s 191 = .int .i64 (ii : Int) := hnew 1 191 (by kernel_rfl)
                  have f192 : s 192 = .pointer (some ⟨ga, ii * 3, none⟩) := hnew 2 192 (by kernel_rfl)
                  have f193 : s 193 = .pointer (some ⟨ga, ii * 3 + 2, none⟩) := hnew 3 193 (by kernel_rfl)
                  have f194 : s 194 = .slice RA.rA RA.rows.length RA.rc := hnew 4 194 (by kernel_rfl)
                  have f195 : s 195 = .slice (some ⟨gb, 0, none⟩) 2 cb := hnew 5 195 (by kernel_rfl)
                  have f196 : s 196 = .int .i64 (ii : Int) := hnew 6 196 (by kernel_rfl)
                  have f197 : s 197 = .pointer (some ⟨gb, ii * 3, none⟩) := hnew 7 197 (by kernel_rfl)
                  have f198 : s 198 = .pointer (some ⟨gb, ii * 3 + 2, none⟩) := hnew 8 198 (by kernel_rfl)
                  have f199 : s 199 = .slice RB.rA RB.rows.length RB.rc := hnew 9 199 (by kernel_rfl)
                  have f200 : s 200 = .bool true := hnew 10 200 (by kernel_rfl)
                  have f201 : s 201 = .bool false := hnew 11 201 (by kernel_rfl)
                  have f202 : s 202 = .bool false := hnew 12 202 (by kernel_rfl)
                  have f203 : s 203 = .slice (some ⟨ga, 0, none⟩) 2 ca := hnew 13 203 (by kernel_rfl)
                  have f204 : s 204 = .int .i64 (ii : Int) := hnew 14 204 (by kernel_rfl)
                  have f205 : s 205 = .pointer (some ⟨ga, ii * 3, none⟩) := hnew 15 205 (by kernel_rfl)
                  have f206 : s 206 = .pointer (some ⟨ga, ii * 3 + 2, none⟩) := hnew 16 206 (by kernel_rfl)
                  have f207 : s 207 = .slice RA.rA RA.rows.length RA.rc := hnew 17 207 (by kernel_rfl)
                  have f208 : s 208 = .slice (some ⟨gn, 0, none⟩) 2 cn := hnew 18 208 (by kernel_rfl)
                  have f209 : s 209 = .int .i64 (ii : Int) := hnew 19 209 (by kernel_rfl)
                  have f210 : s 210 = .pointer (some ⟨gn, ii * 3, none⟩) := hnew 20 210 (by kernel_rfl)
                  have f211 : s 211 = .pointer (some ⟨gn, ii * 3 + 2, none⟩) := hnew 21 211 (by kernel_rfl)
                  have f212 : s 212 = .slice RN.rA RN.rows.length RN.rc := hnew 22 212 (by kernel_rfl)
                  have f213 : s 213 = .bool true := hnew 23 213 (by kernel_rfl)
                  have f214 : s 214 = .bool false := hnew 24 214 (by kernel_rfl)
                  have f215 : s 215 = .bool false := hnew 25 215 (by kernel_rfl)
                  change Exit.then _ _ .normal ⟨#[s 0, s 1, s 2, s 3, s 4, s 5, s 6, s 7, s 8, s 9, s 10, s 11, s 12, s 13, s 14, s 15, s 16, s 17, s 18, s 19, s 20, s 21, s 22, s 23, s 24, s 25, s 26, s 27, s 28, s 29, s 30, s 31, s 32, s 33, s 34, s 35, s 36, s 37, s 38, s 39, s 40, s 41, s 42, s 43, s 44, s 45, s 46, s 47, s 48, s 49, s 50, s 51, s 52, s 53, s 54, s 55, s 56, s 57, s 58, s 59, s 60, s 61, s 62, s 63, s 64, s 65, s 66, s 67, s 68, s 69, s 70, s 71, s 72, s 73, s 74, s 75, s 76, s 77, s 78, s 79, s 80, s 81, s 82, s 83, s 84, s 85, s 86, s 87, s 88, s 89, s 90, s 91, s 92, s 93, s 94, s 95, s 96, s 97, s 98, s 99, s 100, s 101, s 102, s 103, s 104, s 105, s 106, s 107, s 108, s 109, s 110, s 111, s 112, s 113, s 114, s 115, s 116, s 117, s 118, s 119, s 120, s 121, s 122, s 123, s 124, s 125, s 126, s 127, s 128, s 129, s 130, s 131, s 132, s 133, s 134, s 135, s 136, s 137, s 138, s 139, s 140, s 141, s 142, s 143, s 144, s 145, s 146, s 147, s 148, s 149, s 150, s 151, s 152, s 153, s 154, s 155, s 156, s 157, s 158, s 159, s 160, s 161, s 162, s 163, s 164, s 165, s 166, s 167, s 168, s 169, s 170, s 171, s 172, s 173, s 174, s 175, s 176, s 177, s 178, s 179, s 180, s 181, s 182, s 183, s 184, s 185, s 186, s 187, s 188, s 189, s 190, s 191, s 192, s 193, s 194, s 195, s 196, s 197, s 198, s 199, s 200, s 201, s 202, s 203, s 204, s 205, s 206, s 207, s 208, s 209, s 210, s 211, s 212, s 213, s 214, s 215, s 216], _⟩ _
                  simp only [f0, f1, f2, f3, f4, f5, f7, f8, f9, f10, f11, f12, f13, f14, f15, f16, f17, f18, f19, f20, f21, f22, f23, f24, f25, f26, f27, f28, f29, f30, f31, f32, f33, f34, f35, f36, f37, f38, f39, f40, f41, f42, f43, f44, f45, f46, f47, f48, f49, f50, f51, f52, f53, f54, f55, f56, f57, f58, f59, f60, f61, f62, f63, f64, f65, f66, f67, f68, f69, f70, f71, f72, f73, f74, f75, f76, f77, f78, f79, f80, f81, f82, f83, f84, f85, f86, f87, f88, f89, f90, f91, f92, f93, f94, f95, f96, f97, f98, f99, f100, f101, f102, f103, f104, f105, f106, f107, f108, f109, f110, f111, f112, f113, f114, f115, f116, f117, f118, f119, f120, f121, f122, f123, f124, f125, f126, f127, f128, f129, f130, f131, f132, f133, f134, f135, f136, f137, f138, f139, f140, f141, f142, f143, f144, f145, f146, f147, f148, f149, f150, f151, f152, f153, f154, f155, f156, f157, f158, f159, f160, f161, f162, f163, f164, f165, f166, f167, f168, f169, f170, f171, f172, f173, f174, f175, f176, f177, f178, f179, f180, f181, f182, f183, f184, f185, f216, f190, f191, f192, f193, f194, f195, f196, f197, f198, f199, f200, f201, f202, f203, f204, f205, f206, f207, f208, f209, f210, f211, f212, f213, f214, f215]
                  clear hold hnew
                  -- behind 32
                  go_wp2
                  exact ⟨⟨ii + 1, by simp, by omega, HEq2.out.trans hE⟩, by simp [intOf]; omega⟩
                · obtain rfl : ii = 2 := by omega
                  have HK1 := Lib.hid (HKN.out wq)
                  have HEq2 := Lib.hid hEq
                  clear hEq
                  go_wp2_with ((with_reducible refine HK1.out.mono ?_); rintro r w3 ⟨rfl, hE3⟩)
                  go_ret
                  exact ⟨rfl, (EN.out.trans HEq2.out).trans hE3⟩
end Go.Proofs.YthpiobkghfdkkaaGreat

namespace Go.Proofs.YthpiobkghfdkkaaGreat
open Go.ChangeShapes Go.WideShapes Go.ChangeAt Go.RowKit
set_option linter.unusedVariables false

theorem Tryz.cellsChg : Tryz.prog.cellsOf 25 = 3 := by kernel_rfl
theorem Tryz.underlying30 : Tryz.prog.underlying 30 = some (.slice 25) := by kernel_rfl
theorem Tryz.cellsBoolC : Tryz.prog.cellsOf 4 = 1 := by kernel_rfl
theorem Tryz.underlyingBoolC : Tryz.prog.underlying 4 = some .bool := by kernel_rfl
section
variable {H : Type} {enc : TypeId × Value → H} {w : World} {base : Nat} {sp : Nat → Bool} {held : Bool}
set_option maxRecDepth 100000 in
theorem elem_chg {n : Nat} {cs : List Value} {x : DataW H × List MemPlace} (h : DataW.trod enc Tryz.prog w base sp held n 25 cs = some x) :
    ∃ y : CM × DataW H, cs = chc y.1 ∧ x.1 = y.2 ∧ Vs w y.1.A y.1.row.length y.1.cap y.1.row := by
  obtain ⟨xs, n', _, hx, hl, hlen, hg⟩ := DataW.trod_struct Tryz.underlying25 h
  rw [Tryz.cellsChg] at hl
  match cs, hl with
  | [c0, c1, c2], _ =>
    match xs, hlen with
    | [y0, y1, y2], _ =>
      have h0 : DataW.trod enc Tryz.prog w base sp held n' 9 (([c0, c1, c2].drop 0).take (Tryz.prog.cellsOf 9)) = some y0 := hg 0 _ rfl
      have h1 : DataW.trod enc Tryz.prog w base sp held n' 23 (([c0, c1, c2].drop 1).take (Tryz.prog.cellsOf 23)) = some y1 := hg 1 _ rfl
      have h2 : DataW.trod enc Tryz.prog w base sp held n' 4 (([c0, c1, c2].drop 2).take (Tryz.prog.cellsOf 4)) = some y2 := hg 2 _ rfl
      rw [Tryz.cellsStr] at h0
      rw [Tryz.cellsRow] at h1
      rw [Tryz.cellsBoolC] at h2
      obtain ⟨s, e0, _, _⟩ := DataW.trod_string Tryz.underlying9 h0
      obtain ⟨y, e1, _, hv, _⟩ := elem_row h1
      obtain ⟨b, e2, _⟩ := DataW.trod_bool Tryz.underlyingBoolC h2
      simp at e0 e1 e2
      subst e0; subst e1; subst e2
      exact ⟨(⟨s.data.toList, y.1.A, y.1.cap, y.1.l, b⟩, x.1), rfl, rfl, hv⟩
theorem open_chs {fuel : Nat} {A : Option Addr} {n cap : Nat} {x : DataW H × List MemPlace} (h : DataW.trod enc Tryz.prog w base sp held fuel 30 [.slice A n cap] = some x) :
    ∃ L : List CM, ChsIn w A n cap L := by
  obtain ⟨l, h1, h2, _⟩ := open_sl (α := CM × DataW H) (enc_ := fun y => chc y.1) Prod.snd (fun y => Vs w y.1.A y.1.row.length y.1.cap y.1.row) (show Tryz.prog.underlying 30 = some (.slice 25) by kernel_rfl) Tryz.cellsChg (fun _ => rfl) (by decide) (fun n cs x hx => elem_chg hx) h
  exact ⟨l.map Prod.fst, sl_fst h1, fun x hx => by
    obtain ⟨y, hy, rfl⟩ := List.mem_map.1 hx
    exact h2 y hy⟩
end
end Go.Proofs.YthpiobkghfdkkaaGreat
