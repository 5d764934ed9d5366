/-
  Texts that belong together: The law's tables (chapter 16): the walk, without rows that are alike. Changes there and back, in plain words; the book's Put and Take. What the law knows (chapter 16). Two slices of changes (chapter 16's law BatchBack). The walk of the law BatchBack. Lists of changes that came in.
-/
import Derived.Test.YthpiobkghfdkkaaGreatZ46B
import Derived.Test.YthpiobkghfdkkaaGreatZ47B
import Derived.Test.YthpiobkghfdkkaaGreatZ36B
namespace Go.Proofs.YthpiobkghfdkkaaGreat
open Go.RowKit
set_option linter.unusedVariables false

/-- Changes that came in. -/
structure ChsIn (w : World) (A : Option Addr) (n cap : Nat) (l : List CM) : Prop where
  sl : Sl 3 chc w A n cap l
  each : ∀ x ∈ l, Vs w x.A x.row.length x.cap x.row
theorem ChsIn.ev {w w' : World} {A : Option Addr} {n cap : Nat} {l : List CM} (h : ChsIn w A n cap l) (hE : Ev w w') : ChsIn w' A n cap l := ⟨h.sl.ev hE, fun t ht => (h.each t ht).ev hE⟩
theorem ChsIn.cell {w : World} {A : Option Addr} {n cap : Nat} {l : List CM} (h : ChsIn w A n cap l) {i : Nat} {x : CM} (hx : l[i]? = some x) : ∃ b off, A = some ⟨b, off, none⟩ ∧ b < w.heap.size ∧ w.cell? ⟨b, off + i * 3, none⟩ = some (.string ⟨x.tab.toArray⟩) ∧ w.cell? ⟨b, off + i * 3 + 1, none⟩ = some (.slice x.A x.row.length x.cap) ∧ w.cell? ⟨b, off + i * 3 + 2, none⟩ = some (.bool x.rem) := by
  have hi := (List.getElem?_eq_some_iff.1 hx).1
  have hl := h.sl.len
  obtain ⟨b, off, e, hlt, hc⟩ := h.sl.rd (by omega)
  exact ⟨b, off, e, hlt, hc i x hx 0 _ rfl, hc i x hx 1 _ rfl, hc i x hx 2 _ rfl⟩
def CM.bs (x : CM) : ByteArray := ⟨x.tab.toArray⟩
theorem tame_q (x : CM) (q : Bool) (hq : decide (x.bs.size % 2 = 0) = q) (w : World) (h : Vs w x.A x.row.length x.cap x.row) :
    Calls Tryz.prog 19 #[.agg #[.string x.bs, .slice x.A x.row.length x.cap, .bool x.rem]] w (TameOutA x.rem (cond q ⟨#[116]⟩ ⟨#[117]⟩) (tameX q x.row) w) := by
  cases q
  · exact tameA_u x.rem x.bs (by have := of_decide_eq_false hq; omega) x.row x.A x.row.length x.cap w h
  · exact tameA_t x.rem x.bs (of_decide_eq_true hq) x.row x.A x.row.length x.cap w h
theorem items_snoc (Z : List J) (z : J) : itemsOf (Z ++ [z]) = itemsOf Z ++ [z.2] := by simp [itemsOf]

/-- The items, once a box below is stored into. -/
theorem upd5 {w3 wr w4 : World} {A : Option Addr} {n c g i : Nat} {Z : List J} {v : Value} (h : MkSt w3 (.slice A n c) Z wr) (hE : Ev wr w4) (hg : g < w3.heap.size) : SetNew w3.heap.size (itemsOf Z) (w4.setCell ⟨g, i, none⟩ v) A n c :=
  ((h.ev hE).set_).but (K := [g]) (But.setCell _ _ (by simp)) (fun k hk => by rw [List.mem_singleton.1 hk]; exact hg)

/-- The tables are filled in. -/
theorem tabs_done {g m : Nat} {w w1 w3 wr w4 w6 : World} {SU ST : List I} {A4 A6 : Option Addr} {c4 c6 : Nat} (HEW : Ev w wr) (HG : w.heap.size < g ∧ w1.heap.size < g ∧ g < w3.heap.size) (H3 : Ev w3 wr) (E4 : Ev wr w4) (E6 : Ev (w4.setCell ⟨g, 2, none⟩ (.slice A4 SU.length c4)) w6)
    (HB : Bx 45 g #[.string ⟨#[117]⟩, .slice (some ⟨w.heap.size, 0, none⟩) 2 2, .slice A4 SU.length c4, .string ⟨#[116]⟩, .slice (some ⟨w1.heap.size, 0, none⟩) 3 3, .slice none 0 0] w6)
    (C1 : Cs w3 (some ⟨w.heap.size, 0, none⟩) 2 2 ucols) (C2 : Cs w3 (some ⟨w1.heap.size, 0, none⟩) 3 3 tcols)
    (hSU : SetNew wr.heap.size SU w4 A4 SU.length c4) (hST : SetNew (w4.setCell ⟨g, 2, none⟩ (.slice A4 SU.length c4)).heap.size ST w6 A6 ST.length c6) (sU : SOk false m SU) (sT : SOk true m ST) :
    ∃ (g' : Nat) (tU tT : TM), Ending.returned (.slice (some ⟨g, 0, none⟩) 2 2) = .returned (.slice (some ⟨g', 0, none⟩) 2 2) ∧ TsAt (w6.setCell ⟨g, 5, none⟩ (.slice A6 ST.length c6)) (some ⟨g', 0, none⟩) 2 2 [tU, tT] ∧ UtAt m tU tT ∧ Ev w (w6.setCell ⟨g, 5, none⟩ (.slice A6 ST.length c6)) := by
  have b5 : But [g] w4 (w4.setCell ⟨g, 2, none⟩ (.slice A4 SU.length c4)) := But.setCell _ _ (by simp)
  have b7 : But [g] w6 (w6.setCell ⟨g, 5, none⟩ (.slice A6 ST.length c6)) := But.setCell _ _ (by simp)
  have b47 : But [g] w4 (w6.setCell ⟨g, 5, none⟩ (.slice A6 ST.length c6)) := (b5.then (But.of_ev E6)).then b7
  have h1 := H3.size
  have h4 := E4.size
  have h5 := b5.size
  have cU := ((C1.ev H3).ev E4).but b47 fun ad ea => by
    injection ea with ea
    subst ea
    simp
    omega
  have cT := ((C2.ev H3).ev E4).but b47 fun ad ea => by
    injection ea with ea
    subst ea
    simp
    omega
  have rU := (hSU.but b47 fun k hk => by rw [List.mem_singleton.1 hk]; omega).in_
  have rT := (hST.but b7 fun k hk => by rw [List.mem_singleton.1 hk]; omega).in_
  refine ⟨g, ⟨[117], some ⟨w.heap.size, 0, none⟩, 2, ucols, A4, c4, SU⟩, ⟨[116], some ⟨w1.heap.size, 0, none⟩, 3, tcols, A6, c6, ST⟩, rfl, ⟨two_tabs (HB.set 5 (.slice A6 ST.length c6)), fun t ht => ?_⟩, ⟨⟨rfl, rfl⟩, ⟨rfl, rfl⟩, sU, sT⟩, ((But.of_ev (HEW.trans E4)).then b47).ev fun k hk => by rw [List.mem_singleton.1 hk]; omega⟩
  simp only [List.mem_cons, List.not_mem_nil, or_false] at ht
  rcases ht with rfl | rfl
  · exact ⟨cU, rU⟩
  · exact ⟨cT, rT⟩

set_option maxRecDepth 100000 in
set_option maxHeartbeats 2000000 in
theorem law16_tables {B : Option Addr} {n cap : Nat} {l : List CM} (w : World) (h : ChsIn w B n cap l) :
    Calls Tryz.prog 11 #[.int .i64 0, .slice B n cap] w fun e w' => ∃ (m : Nat) (g : Nat) (tU tT : TM), e = .returned (.slice (some ⟨g, 0, none⟩) 2 2) ∧ m ≤ n ∧ m ≤ 20 ∧ TsAt w' (some ⟨g, 0, none⟩) 2 2 [tU, tT] ∧ UtAt m tU tT ∧ Ev w w' := by
  have hmix : Tryz.prog.follows .mixedOrders = true := by kernel_rfl
  have hst := store_complex
  have hcl := h.sl.le
  have hcm := h.sl.max
  have HL := Lib.hid h.sl.len
  have H := Lib.hid h
  have HKT := Lib.hid (fun w1 => keep_t w1)
  have HKU := Lib.hid (fun w1 => keep_u w1)
  clear h
  go_enter Tryz.func11, Tryz.ntmps11
  go_wp2_with (first
    | ((with_reducible refine (HKU.out _).mono ?_); rintro r w1 ⟨rfl, hC, hE⟩; have HC1 := Lib.hid hC; have E1 := Lib.hid hE; clear hC hE)
    | ((with_reducible refine (HKT.out _).mono ?_); rintro r w2 ⟨rfl, hC, hE⟩; have HC2 := Lib.hid hC; have E2 := Lib.hid hE; clear hC hE; obtain ⟨w3, hw3, hE3, hB3⟩ : ∃ w3, w2.alloc (.cells #[.string ⟨#[117]⟩, .slice (some ⟨w.heap.size, 0, none⟩) 2 2, .slice none 0 0, .string ⟨#[116]⟩, .slice (some ⟨w1.heap.size, 0, none⟩) 3 3, .slice none 0 0] 45) = w3 ∧ Ev w2 w3 ∧ Bx 45 w2.heap.size #[.string ⟨#[117]⟩, .slice (some ⟨w.heap.size, 0, none⟩) 2 2, .slice none 0 0, .string ⟨#[116]⟩, .slice (some ⟨w1.heap.size, 0, none⟩) 3 3, .slice none 0 0] w3 := ⟨_, rfl, Ev.alloc _ _, Bx.new _ _ _⟩; have E3 := Lib.hid hE3; have HB3 := Lib.hid hB3; clear hE3 hB3))
  obtain ⟨g, hg⟩ : ∃ g, g = w2.heap.size := ⟨_, rfl⟩
  have EW : Hid (Ev w w3) := Lib.hid ((E1.out.trans E2.out).trans E3.out)
  rw [← hg] at HB3
  try rw [hw3]
  try rw [← hg]
  have HG : Hid (w.heap.size < g ∧ w1.heap.size < g ∧ g < w3.heap.size) := Lib.hid (by
    obtain ⟨b1, o1, e1, h1, _⟩ := HC1.out.rd (by decide)
    obtain ⟨b2, o2, e2, h2, _⟩ := HC2.out.rd (by decide)
    injection e1 with e1
    injection e1 with e1
    injection e2 with e2
    injection e2 with e2
    have h3 := HB3.out.lt
    have h4 := E2.out.size
    omega)
  have HC2 := Lib.hid (HC2.out.ev E3.out)
  have HC1 := Lib.hid ((HC1.out.ev E2.out).ev E3.out)
  clear hw3 hg
  go_loopw [6, 7, 8] (fun tv uv iv wr => ∃ (TA UA : Option Addr) (tn un tc uc k : Nat) (Zt Zu : List J), tv = .slice TA tn tc ∧ uv = .slice UA un uc ∧ iv = .int .i64 (k : Int) ∧ k ≤ n ∧ k ≤ 20 ∧ Hid (TwSt w3 (.slice TA tn tc) (.slice UA un uc) Zt Zu wr) ∧ Hid (Ones true (itemsOf Zt) ∧ Ones false (itemsOf Zu) ∧ tn + un = k)) (fun _ _ iv _ => n - (intOf iv).toNat)
  case atStart => exact ⟨none, none, 0, 0, 0, 0, 0, [], [], rfl, rfl, rfl, Nat.zero_le _, Nat.zero_le _, Lib.hid (TwSt.start _), Lib.hid ⟨(fun x hx => by cases hx), (fun x hx => by cases hx), rfl⟩⟩
  case round =>
    obtain ⟨TA, UA, tn, un, tc, uc, k, Zt, Zu, rfl, rfl, rfl, hk, hk20, HTW, HON⟩ := hrel
    by_cases hlt : k < n ∧ k < 20
    · obtain ⟨hlt, hl20⟩ := hlt
      obtain ⟨x, hx⟩ := H.out.sl.at hlt
      have HXR := Lib.hid (H.out.each x (List.mem_of_getElem? hx))
      obtain ⟨b, off, rfl, hb, c0, c1, c2⟩ := (H.out.ev (EW.out.trans HTW.out.ev)).cell hx
      have i1 : (0 : Int) ≤ (k : Int) := by omega
      have i2 : (k : Int) < (n : Int) := by omega
      have i3 : (k : Int) < 20 := by omega
      have hv0 : (⟨x.tab.toArray⟩ : ByteArray) = x.bs := rfl
      rw [hv0] at c0
      clear hx hv0
      cases hq : decide (x.bs.size % 2 = 0)
      · have HTM := Lib.hid (fun w1 (hE : Ev wr w1) => tame_q x false hq w1 (HXR.out.ev ((EW.out.trans HTW.out.ev).trans hE)))
        unfold TameOutA at HTM
        simp only [cond_false] at HTM
        clear hq
        go_upto_region 7 with (first
          | ((with_reducible refine (HTM.out _ (Ev.refl _)).mono ?_); rintro r wt ⟨TB, bk, bc, rfl, hV, hVb, hE⟩; have HV := Lib.hid hV; have HVB := Lib.hid hVb; have ET := Lib.hid hE; clear hV hVb hE))
        obtain ⟨wx, hwx, hEx, hX⟩ : ∃ wx, wt.alloc (.cells #[.string ⟨#[117]⟩, .slice TB bk bc, .bool x.rem] 25) = wx ∧ Ev wt wx ∧ Bx 25 wt.heap.size #[.string ⟨#[117]⟩, .slice TB bk bc, .bool x.rem] wx := ⟨_, rfl, Ev.alloc _ _, Bx.new _ _ _⟩
        rw [hwx]
        have HVX : Hid (Vs wx TB bk bc (tameX false x.row) ∧ ∀ ad, TB = some ad → w3.heap.size ≤ ad.block ∧ ad.block < wx.heap.size) := Lib.hid ⟨HV.out.ev hEx, fun ad ea => ⟨Nat.le_trans HTW.out.ev.size (HVB.out ad ea).1, Nat.lt_of_lt_of_le (HVB.out ad ea).2 hEx.size⟩⟩
        have EX := Lib.hid (ET.out.trans hEx)
        generalize wt.heap.size = bx at *
        obtain ⟨⟨x0, x1, x2⟩, _⟩ := hX.three
        have HAPP : ∃ A9 c9 w9, (Builtin.append_ #[40, 40] 40 #[.slice UA un uc, .slice (some ⟨wx.heap.size, 0, none⟩) 1 1]).run Tryz.prog (wx.alloc (.cells #[.slice TB bk bc, .complex .f64 4607182418800017408 0] 62)) = .ok (.slice A9 (un + 1) c9) w9 ∧ TwSt w3 (.slice TA tn tc) (.slice A9 (un + 1) c9) Zt (Zu ++ [((TB, bk, bc), (tameX false x.row, 1, 0))]) w9 := by
          have h := (HTW.out.up EX.out).app (y := ((TB, bk, bc), (tameX false x.row, 1, 0))) HVX.out.1 HVX.out.2 (fun e => by have := rightR_len (tameX_right false x.row); rw [show tameX false x.row = [] from e] at this; simp at this) (by have := HTW.out.u.sl.len; have := HON.out.2.2; omega)
          simp only [fl_1, fl_zero] at h
          exact h
        obtain ⟨A9, c9, w9, hr9, ht9⟩ := HAPP
        have HT9 := Lib.hid ht9
        clear ht9 hEx hX hwx
        go_wp2_with (first
          | (at_builtin; refine Lib.wpList_append_run _ rfl _ _ _ _ rfl _ _ rfl rfl _ _ hr9 ?_))
        go_roundw
        case rel => exact ⟨TA, A9, tn, un + 1, tc, c9, k + 1, Zt, Zu ++ [((TB, bk, bc), (tameX false x.row, 1, 0))], rfl, rfl, by go_num, by omega, by omega, HT9, Lib.hid ⟨HON.out.1, by rw [items_snoc]; exact HON.out.2.1.snoc x.row, by have := HON.out.2.2; omega⟩⟩
        case measure => simp [intOf]; omega
      · have HTM := Lib.hid (fun w1 (hE : Ev wr w1) => tame_q x true hq w1 (HXR.out.ev ((EW.out.trans HTW.out.ev).trans hE)))
        unfold TameOutA at HTM
        simp only [cond_true] at HTM
        clear hq
        go_upto_region 7 with (first
          | ((with_reducible refine (HTM.out _ (Ev.refl _)).mono ?_); rintro r wt ⟨TB, bk, bc, rfl, hV, hVb, hE⟩; have HV := Lib.hid hV; have HVB := Lib.hid hVb; have ET := Lib.hid hE; clear hV hVb hE))
        obtain ⟨wx, hwx, hEx, hX⟩ : ∃ wx, wt.alloc (.cells #[.string ⟨#[116]⟩, .slice TB bk bc, .bool x.rem] 25) = wx ∧ Ev wt wx ∧ Bx 25 wt.heap.size #[.string ⟨#[116]⟩, .slice TB bk bc, .bool x.rem] wx := ⟨_, rfl, Ev.alloc _ _, Bx.new _ _ _⟩
        rw [hwx]
        have HVX : Hid (Vs wx TB bk bc (tameX true x.row) ∧ ∀ ad, TB = some ad → w3.heap.size ≤ ad.block ∧ ad.block < wx.heap.size) := Lib.hid ⟨HV.out.ev hEx, fun ad ea => ⟨Nat.le_trans HTW.out.ev.size (HVB.out ad ea).1, Nat.lt_of_lt_of_le (HVB.out ad ea).2 hEx.size⟩⟩
        have EX := Lib.hid (ET.out.trans hEx)
        generalize wt.heap.size = bx at *
        obtain ⟨⟨x0, x1, x2⟩, _⟩ := hX.three
        have HAPP : ∃ A9 c9 w9, (Builtin.append_ #[40, 40] 40 #[.slice TA tn tc, .slice (some ⟨wx.heap.size, 0, none⟩) 1 1]).run Tryz.prog (wx.alloc (.cells #[.slice TB bk bc, .complex .f64 4607182418800017408 0] 62)) = .ok (.slice A9 (tn + 1) c9) w9 ∧ TwSt w3 (.slice UA un uc) (.slice A9 (tn + 1) c9) Zu (Zt ++ [((TB, bk, bc), (tameX true x.row, 1, 0))]) w9 := by
          have h := (HTW.out.swap.up EX.out).app (y := ((TB, bk, bc), (tameX true x.row, 1, 0))) HVX.out.1 HVX.out.2 (fun e => by have := rightR_len (tameX_right true x.row); rw [show tameX true x.row = [] from e] at this; simp at this) (by have := HTW.out.t.sl.len; have := HON.out.2.2; omega)
          simp only [fl_1, fl_zero] at h
          exact h
        obtain ⟨A9, c9, w9, hr9, ht9⟩ := HAPP
        have HT9 := Lib.hid ht9
        clear ht9 hEx hX hwx
        go_wp2_with (first
          | (at_builtin; refine Lib.wpList_append_run _ rfl _ _ _ _ rfl _ _ rfl rfl _ _ hr9 ?_))
        go_roundw
        case rel => exact ⟨A9, UA, tn + 1, un, c9, uc, k + 1, Zt ++ [((TB, bk, bc), (tameX true x.row, 1, 0))], Zu, rfl, rfl, by go_num, by omega, by omega, Lib.hid HT9.out.swap, Lib.hid ⟨by rw [items_snoc]; exact HON.out.1.snoc x.row, HON.out.2.1, by have := HON.out.2.2; omega⟩⟩
        case measure => simp [intOf]; omega
    · have HTL : Hid (tn ≤ 20 ∧ un ≤ 20) := Lib.hid (by have := HON.out.2.2; omega)
      have HTK : Hid (tn ≤ k ∧ un ≤ k) := Lib.hid (by have := HON.out.2.2; omega)
      have HKK : Hid (k ≤ n ∧ k ≤ 20) := Lib.hid ⟨hk, hk20⟩
      have HMT := Lib.hid (fun w1_ (hE : Ev wr w1_) => rf6_make (l := itemsOf Zt) w1_ ((HTW.out.t.ev hE).set_).in_ HON.out.1.addI (by have := HTL.out; omega))
      have HMU := Lib.hid (fun w1_ (hE : Ev wr w1_) => rf6_make (l := itemsOf Zu) w1_ ((HTW.out.u.ev hE).set_).in_ HON.out.2.1.addI (by have := HTL.out; omega))
      have HBW := Lib.hid (HB3.out.ev HTW.out.ev)
      by_cases hkn : k < n
      · have i2 : (k : Int) < (n : Int) := by omega
        have i3 : ¬ (k : Int) < 20 := by omega
        go_wp2_with (first
          | ((with_reducible refine (HMU.out _ (Ev.refl _)).mono ?_); rintro r w4 ⟨SU, A4, c4, rfl, hS, hP, hN, hE⟩; have HSU := Lib.hid hS; have HPU := Lib.hid (And.intro hP hN); have E4 := Lib.hid hE; have HB4 := Lib.hid (HBW.out.ev hE); clear hS hP hN hE; obtain ⟨f4, l4, e4⟩ : w4.frozen? ⟨g, 2, none⟩ = false ∧ g < w4.heap.size ∧ w4.cell? ⟨g, 2, none⟩ = some (.slice none 0 0) := ⟨HB4.out.frozen 2, HB4.out.lt, HB4.out.cell 2⟩; have HU5 := Lib.hid (upd5 (i := 2) (v := .slice A4 SU.length c4) HTW.out.t E4.out HG.out.2.2); have HMT5 := Lib.hid (rf6_make (l := itemsOf Zt) _ HU5.out.in_ HON.out.1.addI (by have := HTL.out; omega)); have HB5 := Lib.hid (HB4.out.set 2 (.slice A4 SU.length c4)))
          | ((with_reducible refine (HMT5.out).mono ?_); rintro r w6 ⟨ST, A6, c6, rfl, hS, hP, hN, hE⟩; have HST := Lib.hid hS; have HPT := Lib.hid (And.intro hP hN); have E6 := Lib.hid hE; have HB6 := Lib.hid (HB5.out.ev hE); clear hS hP hN hE; obtain ⟨f6, l6, e6⟩ : w6.frozen? ⟨g, 5, none⟩ = false ∧ g < w6.heap.size ∧ w6.cell? ⟨g, 5, none⟩ = some (.slice none 0 0) := ⟨HB6.out.frozen 5, HB6.out.lt, HB6.out.cell 5⟩))
        go_ret
        obtain ⟨g9, tU9, tT9, h91, h92, h93, h94⟩ := tabs_done (m := k) (HEW := EW.out.trans HTW.out.ev) HG.out HTW.out.ev E4.out E6.out HB6.out HC1.out HC2.out HSU.out HST.out (sok_of HPU.out.1 HON.out.2.1 HPU.out.2 (by rw [itemsOf_length, HTW.out.u.sl.len]; exact HTK.out.2)) (sok_of HPT.out.1 HON.out.1 HPT.out.2 (by rw [itemsOf_length, HTW.out.t.sl.len]; exact HTK.out.1))
        exact ⟨k, g9, tU9, tT9, h91, HKK.out.1, HKK.out.2, h92, h93, h94⟩
      · have i2 : ¬ (k : Int) < (n : Int) := by omega
        go_wp2_with (first
          | ((with_reducible refine (HMU.out _ (Ev.refl _)).mono ?_); rintro r w4 ⟨SU, A4, c4, rfl, hS, hP, hN, hE⟩; have HSU := Lib.hid hS; have HPU := Lib.hid (And.intro hP hN); have E4 := Lib.hid hE; have HB4 := Lib.hid (HBW.out.ev hE); clear hS hP hN hE; obtain ⟨f4, l4, e4⟩ : w4.frozen? ⟨g, 2, none⟩ = false ∧ g < w4.heap.size ∧ w4.cell? ⟨g, 2, none⟩ = some (.slice none 0 0) := ⟨HB4.out.frozen 2, HB4.out.lt, HB4.out.cell 2⟩; have HU5 := Lib.hid (upd5 (i := 2) (v := .slice A4 SU.length c4) HTW.out.t E4.out HG.out.2.2); have HMT5 := Lib.hid (rf6_make (l := itemsOf Zt) _ HU5.out.in_ HON.out.1.addI (by have := HTL.out; omega)); have HB5 := Lib.hid (HB4.out.set 2 (.slice A4 SU.length c4)))
          | ((with_reducible refine (HMT5.out).mono ?_); rintro r w6 ⟨ST, A6, c6, rfl, hS, hP, hN, hE⟩; have HST := Lib.hid hS; have HPT := Lib.hid (And.intro hP hN); have E6 := Lib.hid hE; have HB6 := Lib.hid (HB5.out.ev hE); clear hS hP hN hE; obtain ⟨f6, l6, e6⟩ : w6.frozen? ⟨g, 5, none⟩ = false ∧ g < w6.heap.size ∧ w6.cell? ⟨g, 5, none⟩ = some (.slice none 0 0) := ⟨HB6.out.frozen 5, HB6.out.lt, HB6.out.cell 5⟩))
        go_ret
        obtain ⟨g9, tU9, tT9, h91, h92, h93, h94⟩ := tabs_done (m := k) (HEW := EW.out.trans HTW.out.ev) HG.out HTW.out.ev E4.out E6.out HB6.out HC1.out HC2.out HSU.out HST.out (sok_of HPU.out.1 HON.out.2.1 HPU.out.2 (by rw [itemsOf_length, HTW.out.u.sl.len]; exact HTK.out.2)) (sok_of HPT.out.1 HON.out.1 HPT.out.2 (by rw [itemsOf_length, HTW.out.t.sl.len]; exact HTK.out.1))
        exact ⟨k, g9, tU9, tT9, h91, HKK.out.1, HKK.out.2, h92, h93, h94⟩
end Go.Proofs.YthpiobkghfdkkaaGreat

namespace Go.Proofs.YthpiobkghfdkkaaGreat
open Go.RowKit
set_option linter.unusedVariables false

theorem chS_cons (q : Bool) (x : CM) (l : List CM) (f : List V → Int) : chS q (x :: l) f = (if x.tab = nmT q then f x.row * oneE x.rem else 0) + chS q l f := by
  unfold chS
  by_cases h : x.tab = nmT q
  · rw [List.filter_cons_of_pos (by simpa using h), List.map_cons, List.sum_cons, if_pos h]
  · rw [List.filter_cons_of_neg (by simpa using h), if_neg h]
    omega
theorem chS_append (q : Bool) (f : List V → Int) : ∀ (l m : List CM), chS q (l ++ m) f = chS q l f + chS q m f
  | [], m => by simp [chS]
  | x :: l, m => by
    rw [List.cons_append, chS_cons, chS_cons, chS_append q f l m]
    omega
/-- The same change, added or removed. -/
def CM.re (b : Bool) (x : CM) : CM := { x with rem := b }
theorem chS_re (q : Bool) (f : List V → Int) : ∀ L : List CM, chS q (L.map (CM.re true)) f = - chS q (L.map (CM.re false)) f
  | [] => by simp [chS]
  | x :: L => by
    rw [List.map_cons, List.map_cons, chS_cons, chS_cons, chS_re q f L]
    show (if x.tab = nmT q then f x.row * oneE true else 0) + _ = _
    show _ = -((if x.tab = nmT q then f x.row * oneE false else 0) + _)
    have h1 : oneE true = -1 := rfl
    have h2 : oneE false = 1 := rfl
    rw [h1, h2]
    split <;> omega
theorem chS_pos (q : Bool) (r : List V) : ∀ L : List CM, 0 ≤ chS q (L.map (CM.re false)) (oneRow r)
  | [] => by simp [chS]
  | x :: L => by
    rw [List.map_cons, chS_cons]
    have h := chS_pos q r L
    have h2 : oneE (CM.re false x).rem = 1 := rfl
    rw [h2]
    have h3 : 0 ≤ oneRow r (CM.re false x).row * 1 := by unfold oneRow; split <;> decide
    split
    · omega
    · omega
/-- A batch that is taken is applied. -/
theorem ApplyOut.good {m : Nat} {l : List CM} {tU tT : TM} {w : World} {e : Ending} {w' : World} (h : ApplyOut m l tU tT w e w') (h0 : 0 < l.length) (h8 : l.length ≤ 8)
    (hg : ∀ (k : Nat) (y : CM) (q : Bool) (tU' tT' : TM), l[k]? = some y → y.tab = nmT q → Behind m (l.take k) tU tT tU' tT' → whyC (rowsQ q tU' tT') y.row y.rem = 0) :
    Ev w w' ∧ ∃ (g cap : Nat) (tU' tT' : TM) (A : Option Addr) (n c : Nat) (Z : List DL) (dT dU : Option (List I)), e = .returned (.tuple #[.slice (some ⟨g, 0, none⟩) 2 cap, .slice A n c, .int .i64 0, .int .i64 0]) ∧ TabSt w.heap.size g cap [tU', tT'] w' ∧ Behind m l tU tT tU' tT' ∧ Sl 2 dlc w' A n c Z ∧ (∀ d ∈ Z, SetNew w.heap.size d.rows w' d.A d.rows.length d.cap) ∧ Z.map nr = dF dT dU ∧ DOk true l dT ∧ DOk false l dU := by
  refine ⟨h.1, ?_⟩
  have ht : takenN l.length = 0 := by unfold takenN; rw [if_neg (by omega), if_neg (by omega)]
  rcases h.2 with ⟨g, cap, tU', tT', A, n, c, Z, dT, dU, h1, _, _, h4⟩ | ⟨k, why, _, h2, h3 | ⟨_, q, y, tU', tT', h4, h5, h6, h7⟩⟩
  · exact ⟨g, cap, tU', tT', A, n, c, Z, dT, dU, h1, h4⟩
  · exact absurd (h3.1.symm.trans ht) h2
  · exact absurd (h7.trans (hg k y q tU' tT' h4 h5 h6)) h2
theorem UtAt.rows {m : Nat} {tU tT : TM} (h : UtAt m tU tT) (q : Bool) : SOk q m (rowsQ q tU tT) := by
  cases q
  · exact h.sU
  · exact h.sT
theorem SOk.tot {q : Bool} {m : Nat} {S : List I} (h : SOk q m S) : netS (fun _ => 1) S ≤ m := by
  rw [← absS_nn S fun x hx => by have := h.nn.adds h.z x hx; unfold netI; omega]
  have := h.z.small
  omega
/-- Rows are added. -/
theorem adds_taken {m : Nat} {L : List CM} {tU tT : TM} (hm : m + L.length ≤ 60) (k : Nat) (y : CM) (q : Bool) (tU' tT' : TM) (hy : (L.map (CM.re false))[k]? = some y) (hb : Behind m ((L.map (CM.re false)).take k) tU tT tU' tT') : whyC (rowsQ q tU' tT') y.row y.rem = 0 := by
  have h1 := (hb.ut.rows q).tot
  rw [List.length_take, List.length_map] at h1
  obtain ⟨x, _, rfl⟩ := List.mem_map.1 (List.mem_of_getElem? hy)
  unfold whyC
  show (if false = true then _ else _) = _
  rw [if_neg (by decide), if_neg (by omega)]
/-- What was added can be removed. -/
theorem back_taken {m m' : Nat} {L : List CM} {tU tT tU1 tT1 : TM} (h0 : UtAt m' tU tT) (h1 : Behind m (L.map (CM.re false)) tU tT tU1 tT1) {m1 : Nat} (k : Nat) (y : CM) (q : Bool) (tU' tT' : TM) (hy : (L.map (CM.re true))[k]? = some y) (hq : y.tab = nmT q) (hb : Behind m1 ((L.map (CM.re true)).take k) tU1 tT1 tU' tT') : whyC (rowsQ q tU' tT') y.row y.rem = 0 := by
  rw [List.getElem?_map] at hy
  obtain ⟨x, hx, e⟩ := Option.map_eq_some_iff.1 hy
  subst e
  obtain ⟨hk, ex⟩ := List.getElem?_eq_some_iff.1 hx
  have e1 := hb.sum q (oneRow x.row)
  rw [h1.sum q, ← List.map_take, chS_re] at e1
  have hspl : L = L.take k ++ x :: L.drop (k + 1) := by
    rw [← ex, ← List.drop_eq_getElem_cons hk, List.take_append_drop]
  have e2 : chS q (L.map (CM.re false)) (oneRow x.row) = chS q ((L.take k).map (CM.re false)) (oneRow x.row) + chS q ((x :: L.drop (k + 1)).map (CM.re false)) (oneRow x.row) := by
    rw [← chS_append, ← List.map_append, ← hspl]
  rw [List.map_cons, chS_cons, if_pos (show (CM.re false x).tab = nmT q from hq)] at e2
  have e3 := chS_pos q x.row (L.drop (k + 1))
  have e4 : oneRow x.row (CM.re false x).row * oneE (CM.re false x).rem = 1 := by
    show oneRow x.row x.row * 1 = 1
    unfold oneRow
    simp
  rw [e4] at e2
  have e5 := (h0.rows q).nn x.row
  rw [cnt] at e5
  unfold whyC
  show (if true = true then _ else _) = _
  rw [if_pos rfl, if_neg]
  show ¬ cnt x.row (rowsQ q tU' tT') = 0
  rw [cnt]
  omega
theorem back_same {m m' m1 : Nat} {L : List CM} {tU tT tU1 tT1 tU2 tT2 : TM} (h0 : UtAt m' tU tT) (h1 : Behind m (L.map (CM.re false)) tU tT tU1 tT1) (h2 : Behind m1 (L.map (CM.re true)) tU1 tT1 tU2 tT2) (q : Bool) : rowsQ q tU2 tT2 = rowsQ q tU tT :=
  ((h2.ut.rows q).z).same ((h0.rows q).z) fun f => by
    rw [h2.sum q, h1.sum q, chS_re]
    omega

set_option maxRecDepth 100000 in
theorem keep_put {A : Option Addr} {n cap : Nat} (s : ByteArray) (w : World) : Calls Tryz.prog 9 #[.string s, .slice A n cap] w fun e w' => e = .returned (.agg #[.string s, .slice A n cap, .bool false]) ∧ Ev w w' := by
  go_enter Tryz.func9, Tryz.ntmps9
  go_wp2
  refine bodyPost_ret (results_cell1 rfl _ _ _ _ _ rfl (Bx.new 25 _ _) Tryz.underlying25 rfl Tryz.sizeChange) rfl ?_
  exact ⟨rfl, Ev.alloc _ _⟩
set_option maxRecDepth 100000 in
theorem keep_take {A : Option Addr} {n cap : Nat} (s : ByteArray) (w : World) : Calls Tryz.prog 12 #[.string s, .slice A n cap] w fun e w' => e = .returned (.agg #[.string s, .slice A n cap, .bool true]) ∧ Ev w w' := by
  go_enter Tryz.func12, Tryz.ntmps12
  go_wp2
  refine bodyPost_ret (results_cell1 rfl _ _ _ _ _ rfl (Bx.new 25 _ _) Tryz.underlying25 rfl Tryz.sizeChange) rfl ?_
  exact ⟨rfl, Ev.alloc _ _⟩

theorem sok_zero {q : Bool} {S : List I} (h : SOk q 0 S) : S = [] := by
  cases S with
  | nil => rfl
  | cons x S =>
    have h1 := h.nn.adds h.z x (List.mem_cons_self ..)
    have h2 := h.z.small
    rw [absS_cons] at h2
    unfold netI at h2
    omega
/-- The row (1, 1), once in and out of u. -/
def k11 : List V := ([1, 1] : List Int).map numV
theorem fits_k11 : fitsL ucols k11 = true := by kernel_rfl
theorem right_k11 : rightR k11 = true := by kernel_rfl
def kCh (A : Option Addr) (c : Nat) (rem : Bool) : CM := ⟨[117], A, c, k11, rem⟩
theorem kCh_ok (A : Option Addr) (c : Nat) (rem : Bool) : ChOk (kCh A c rem) := ⟨false, rfl, fits_k11, right_k11⟩
theorem kCh_u (A : Option Addr) (c : Nat) (rem : Bool) : (kCh A c rem).tab = nmT false := rfl
theorem kCh_t (A : Option Addr) (c : Nat) (rem : Bool) : (kCh A c rem).tab ≠ nmT true := by
  show ([117] : By) ≠ [116]
  decide
theorem nmT_117 {q : Bool} (h : ([117] : By) = nmT q) : q = false := by
  cases q
  · rfl
  · exact absurd h (by decide)
theorem known_one {A B : Option Addr} {c d : Nat} {tU tT : TM} {w w' : World} {e : Ending} (hU : UtAt 0 tU tT) (h : ApplyOut 0 [kCh A c false, kCh B d true] tU tT w e w') :
    Ev w w' ∧ ∃ (g cap : Nat) (b off k : Nat) (D : Option Addr) (dc : Nat), e = .returned (.tuple #[.slice (some ⟨g, 0, none⟩) 2 cap, .slice (some ⟨b, off, none⟩) 1 k, .int .i64 0, .int .i64 0]) ∧ 1 ≤ k ∧ k ≤ 9223372036854775807 ∧ b < w'.heap.size ∧ w'.cell? ⟨b, off, none⟩ = some (.string ⟨#[117]⟩) ∧ w'.cell? ⟨b, off + 1, none⟩ = some (.slice D 0 dc) := by
  obtain ⟨h1, g, cap, tU', tT', A', n, c', Z, dT, dU, rfl, _, _, hs, _, hz, hT, hUd⟩ := h.good (by simp) (by simp) (fun k y q tU' tT' hy hq hb => by
    match k, hy with
    | 0, hy =>
      obtain rfl := Option.some.inj hy
      have h1 := (hb.ut.rows q).tot
      unfold whyC
      show (if false = true then _ else _) = _
      rw [if_neg (by decide), if_neg (by simp at h1; omega)]
    | 1, hy =>
      obtain rfl := Option.some.inj hy
      obtain rfl := nmT_117 hq
      have h1 := hb.sum false (oneRow k11)
      have h2 := (hU.rows false).nn k11
      rw [cnt] at h2
      rw [show List.take 1 [kCh A c false, kCh B d true] = [kCh A c false] from rfl, chS_cons] at h1
      have h3 : (if (kCh A c false).tab = nmT false then oneRow k11 (kCh A c false).row * oneE (kCh A c false).rem else 0) = 1 := by
        rw [if_pos (kCh_u ..)]
        show oneRow k11 k11 * 1 = 1
        unfold oneRow
        simp
      rw [h3, show chS false [] (oneRow k11) = 0 from rfl] at h1
      unfold whyC
      show (if true = true then _ else _) = _
      rw [if_pos rfl, if_neg]
      show ¬ cnt k11 _ = 0
      rw [cnt]
      omega
    | _ + 2, hy => simp at hy)
  refine ⟨h1, ?_⟩
  have hdT : dT = none := by
    cases dT with
    | none => rfl
    | some s =>
      obtain ⟨_, _, x, hx, hx2⟩ := hT
      simp only [List.mem_cons, List.not_mem_nil, or_false] at hx
      rcases hx with rfl | rfl
      · exact absurd hx2 (kCh_t _ _ _)
      · exact absurd hx2 (kCh_t _ _ _)
  have hdU : dU = some [] := by
    cases dU with
    | none => exact absurd rfl (hUd (kCh A c false) (List.mem_cons_self ..))
    | some s =>
      obtain ⟨h1, h2, _⟩ := hUd
      congr 1
      refine h1.same (ZOk.nil_ 0) fun f => ?_
      rw [h2, chS_cons, chS_cons, netS_nil, if_pos (kCh_u ..), if_pos (kCh_u ..), show chS false [] f = 0 from rfl]
      show f k11 * 1 + (f k11 * (-1) + 0) = 0
      omega
  subst hdT; subst hdU
  match Z, hz with
  | [z], hz =>
    have hz1 : nr z = (([117] : By), ([] : List I)) := by simpa [dF] using hz
    unfold nr at hz1
    injection hz1 with e1 e2
    obtain rfl : n = 1 := by rw [← hs.len]; rfl
    obtain ⟨b, off, rfl, hlt, hc⟩ := hs.rd (by decide)
    have c0 := hc 0 z rfl 0 _ rfl
    have c1 := hc 0 z rfl 1 _ rfl
    rw [e1] at c0
    rw [e2] at c1
    have hle := hs.le
    have hmx := hs.max
    exact ⟨g, cap, b, off, c', z.A, z.cap, rfl, hle, hmx, hlt, by simpa using c0, by simpa using c1⟩
  | [], hz => simp [dF] at hz
  | _ :: _ :: _, hz => simp [dF] at hz
theorem known_two {A : Option Addr} {c : Nat} {tU tT : TM} {w w' : World} {e : Ending} (hU : UtAt 0 tU tT) (h : ApplyOut 0 [kCh A c true] tU tT w e w') : Ev w w' ∧ e = .returned (.tuple #[.slice none 0 0, .slice none 0 0, .int .i64 25, .int .i64 0]) := by
  refine ⟨h.1, ?_⟩
  have hrow : ∀ q, rowsQ q tU tT = [] := fun q => sok_zero (hU.rows q)
  have ht : takenN 1 = 0 := rfl
  rcases h.2 with ⟨g, cap, tU', tT', A', n, c', Z, dT, dU, _, _, _, _, hb, _⟩ | ⟨k, why, rfl, h2, h3 | ⟨_, q, y, tU', tT', h4, h5, h6, h7⟩⟩
  · have h1 := hb.sum false (oneRow k11)
    have h2 := (hb.ut.rows false).nn k11
    rw [cnt] at h2
    rw [hrow, netS_nil, chS_cons, if_pos (kCh_u ..), show chS false [] (oneRow k11) = 0 from rfl] at h1
    have h3 : oneRow k11 (kCh A c true).row * oneE (kCh A c true).rem = -1 := by
      show oneRow k11 k11 * (-1) = -1
      unfold oneRow
      simp
    omega
  · exact absurd (h3.1.symm.trans ht) h2
  · match k, h4 with
    | 0, h4 =>
      obtain rfl := Option.some.inj h4
      have h8 : why = 25 := by
        rw [h7] at h2 ⊢
        unfold whyC at h2 ⊢
        split at h2
        · rename_i h9
          rw [if_pos h9]
          split at h2
          · rename_i h8
            rw [if_pos h8]
          · exact absurd rfl h2
        · rename_i hn
          exact absurd rfl hn
      rw [h8]
      rfl
    | _ + 1, h4 => simp at h4
end Go.Proofs.YthpiobkghfdkkaaGreat

namespace Go.Proofs.YthpiobkghfdkkaaGreat
open Go.RowKit
set_option linter.unusedVariables false

theorem chs_nil (w : World) : ChsIn w none 0 0 [] := ⟨⟨rfl, Nat.le_refl _, by decide, (fun _ => ⟨rfl, rfl⟩), (fun h => absurd h (by decide))⟩, (fun x hx => by cases hx)⟩
theorem nums11 (w : World) : Calls Tryz.prog 10 #[.slice (some ⟨w.heap.size, 0, none⟩) 2 2] (w.alloc (.cells #[.int .i64 1, .int .i64 1] 2)) fun e w' => ∃ A cap, e = .returned (.slice A 2 cap) ∧ NumRow [1, 1] w' A 2 cap ∧ Ev w w' :=
  (nums_row [1, 1] 2 rfl (by decide) (by decide) w _ rfl).mono fun e w' ⟨A, m, cap, he, hn, hE⟩ => by
    obtain rfl : m = 2 := by rw [← hn.1.len]; rfl
    exact ⟨A, cap, he, hn, hE⟩
theorem chs_two {A B : Option Addr} {c d : Nat} {w : World} (h : NumRow [1, 1] w A 2 c) (h' : NumRow [1, 1] w B 2 d) : ChsAt (w.alloc (.cells #[.string ⟨#[117]⟩, .slice A 2 c, .bool false, .string ⟨#[117]⟩, .slice B 2 d, .bool true] 25)) (some ⟨w.heap.size, 0, none⟩) 2 2 [kCh A c false, kCh B d true] := by
  refine ⟨Sl.made (enc := chc) (fun _ => rfl) [kCh A c false, kCh B d true] 2 rfl (by decide) w _ _ rfl, fun x hx => ?_⟩
  simp only [List.mem_cons, List.not_mem_nil, or_false] at hx
  rcases hx with rfl | rfl
  · exact CmAt.ev ⟨h.1, h.2⟩ (Ev.alloc _ _)
  · exact CmAt.ev ⟨h'.1, h'.2⟩ (Ev.alloc _ _)
theorem chs_one {A : Option Addr} {c : Nat} {w : World} (h : NumRow [1, 1] w A 2 c) : ChsAt (w.alloc (.cells #[.string ⟨#[117]⟩, .slice A 2 c, .bool true] 25)) (some ⟨w.heap.size, 0, none⟩) 1 1 [kCh A c true] := by
  refine ⟨Sl.made (enc := chc) (fun _ => rfl) [kCh A c true] 1 rfl (by decide) w _ _ rfl, fun x hx => ?_⟩
  rw [List.mem_singleton.1 hx]
  exact CmAt.ev ⟨h.1, h.2⟩ (Ev.alloc _ _)

set_option maxRecDepth 100000 in
set_option maxHeartbeats 2000000 in
theorem law16_known (w : World) : Calls Tryz.prog 17 #[] w fun e w' => e = .returned (.bool true) ∧ Ev w w' := by
  have hmix : Tryz.prog.follows .mixedOrders = true := by kernel_rfl
  have HTB := Lib.hid (law16_tables w (chs_nil w))
  have HNM := Lib.hid (fun w1 => nums11 w1)
  have HPU := Lib.hid (fun (A : Option Addr) (n c : Nat) (s : ByteArray) w1 => keep_put (A := A) (n := n) (cap := c) s w1)
  have HTA := Lib.hid (fun (A : Option Addr) (n c : Nat) (s : ByteArray) w1 => keep_take (A := A) (n := n) (cap := c) s w1)
  go_enter Tryz.func17, Tryz.ntmps17
  go_wp2_with (first
    | ((with_reducible refine (HTB.out).mono ?_); rintro r w1 ⟨m, g, tU, tT, rfl, hm, _, hts, hut, hE⟩; obtain rfl := Nat.le_zero.1 hm; have HTS := Lib.hid hts; have HUT := Lib.hid hut; have E1 := Lib.hid hE; clear hm hts hut hE)
    | ((with_reducible refine (HNM.out _).mono ?_); rintro r w2 ⟨A2, c2, rfl, hn, hE⟩; have HN2 := Lib.hid hn; have E2 := Lib.hid (E1.out.trans hE); have F2 := Lib.hid hE; clear hn hE)
    | ((with_reducible refine (HPU.out _ _ _ _ _).mono ?_); rintro r w3 ⟨rfl, hE⟩; have E3 := Lib.hid (E2.out.trans hE); have F3 := Lib.hid hE; clear hE)
    | ((with_reducible refine (HNM.out _).mono ?_); rintro r w4 ⟨A4, c4, rfl, hn, hE⟩; have HN4 := Lib.hid hn; have E4 := Lib.hid (E3.out.trans hE); have F4 := Lib.hid (F3.out.trans hE); clear hn hE)
    | ((with_reducible refine (HTA.out _ _ _ _ _).mono ?_); rintro r w5 ⟨rfl, hE⟩; have E5 := Lib.hid (E4.out.trans hE); have F5 := Lib.hid (F4.out.trans hE); have HA1 := Lib.hid (bt_Apply (w5.alloc (.cells #[.string ⟨#[117]⟩, .slice A2 2 c2, .bool false, .string ⟨#[117]⟩, .slice A4 2 c4, .bool true] 25)) (HTS.out.ev ((F2.out.trans F5.out).trans (Ev.alloc _ _))) HUT.out (by decide) (chs_two (HN2.out.ev F5.out) (HN4.out.ev hE)) (fun y hy => by
        simp only [List.mem_cons, List.not_mem_nil, or_false] at hy
        rcases hy with rfl | rfl
        · exact kCh_ok _ _ _
        · exact kCh_ok _ _ _) (by decide)); clear hE)
    | ((with_reducible refine (HA1.out).mono ?_); intro r w6 hap; obtain ⟨hE, g6, cap6, b6, off6, k6, D6, dc6, rfl, hk6, hk6m, hb6, d0_, d1_⟩ := known_one HUT.out hap; have E6 := Lib.hid ((E5.out.trans (Ev.alloc _ _)).trans hE); have F6 := Lib.hid ((F5.out.trans (Ev.alloc _ _)).trans hE); clear hE hap)
    | ((with_reducible refine (HNM.out _).mono ?_); rintro r w7 ⟨A7, c7, rfl, hn, hE⟩; have HN7 := Lib.hid hn; have E7 := Lib.hid (E6.out.trans hE); have F7 := Lib.hid hE; clear hn hE)
    | ((with_reducible refine (HTA.out _ _ _ _ _).mono ?_); rintro r w8 ⟨rfl, hE⟩; have E8 := Lib.hid (E7.out.trans hE); have F8 := Lib.hid (F7.out.trans hE); have HA2 := Lib.hid (bt_Apply (w8.alloc (.cells #[.string ⟨#[117]⟩, .slice A7 2 c7, .bool true] 25)) (HTS.out.ev (((F2.out.trans F6.out).trans F8.out).trans (Ev.alloc _ _))) HUT.out (by decide) (chs_one (HN7.out.ev hE)) (fun y hy => by
        rw [List.mem_singleton.1 hy]
        exact kCh_ok _ _ _) (by decide)); clear hE)
    | ((with_reducible refine (HA2.out).mono ?_); intro r w9 hap; obtain ⟨hE, rfl⟩ := known_two HUT.out hap; have E9 := Lib.hid ((E8.out.trans (Ev.alloc _ _)).trans hE); have F9 := Lib.hid ((F8.out.trans (Ev.alloc _ _)).trans hE); clear hE hap; have d0 := (F9.out.cell (p := ⟨b6, off6, none⟩) hb6).trans d0_; have d1 := (F9.out.cell (p := ⟨b6, off6 + 1, none⟩) hb6).trans d1_; clear d0_ d1_))
  go_ret
  exact ⟨rfl, E9.out⟩
end Go.Proofs.YthpiobkghfdkkaaGreat

namespace Go.Proofs.YthpiobkghfdkkaaGreat
open Go.RowKit
set_option linter.unusedVariables false

/-- The cells of a change are no whole number. -/
def PvC (u : Value) : Prop := (∃ s, u = .string s) ∨ (∃ A n c, u = .slice A n c) ∨ ∃ b, u = .bool b
theorem pvc_c (x : CM) : ∀ u ∈ chc x, PvC u := fun u hu => by
  simp [chc] at hu
  rcases hu with rfl | rfl | rfl
  · exact .inl ⟨_, rfl⟩
  · exact .inr (.inl ⟨_, _, _, rfl⟩)
  · exact .inr (.inr ⟨_, rfl⟩)
theorem pvc_zero : ∀ u ∈ (Value.agg #[.string ⟨#[]⟩, .slice none 0 0, .bool false]).cells.toList, PvC u := fun u hu => by
  simp [Value.cells] at hu
  rcases hu with rfl | rfl | rfl
  · exact .inl ⟨_, rfl⟩
  · exact .inr (.inl ⟨_, _, _, rfl⟩)
  · exact .inr (.inr ⟨_, rfl⟩)
theorem pvc_int (a : Int) : ¬ PvC (.int .i64 a) := fun h => by
  rcases h with ⟨s, e⟩ | ⟨A, n, c, e⟩ | ⟨b, e⟩ <;> cases e
theorem Tryz.underlying_changes : Tryz.prog.underlying 30 = some (.slice 25) := by kernel_rfl
theorem Tryz.infoChangeC : (Tryz.prog.info? 25).map (fun i => (i.zero, i.size, i.bytes)) = some (some (.agg #[.string ⟨#[]⟩, .slice none 0 0, .bool false]), 3, 48) := by kernel_rfl
theorem vs_pastC {wr wq : World} {base : Nat} {v : Value} {Z : List CM} (hO : Ow 25 3 chc base wr v Z) (hp : OwP PvC wr v) (hb : But (foot v) wr wq) {A : Option Addr} {n c : Nat} {r : List V} (h : Vs wr A n c r) : Vs wq A n c r := by
  cases hv : v.ownBlock with
  | none => exact h.ev (hb.ev fun g hg => by rw [mem_foot, hv] at hg; cases hg)
  | some g =>
    have hf : foot v = [g] := by unfold foot; rw [hv]; rfl
    rw [hf] at hb
    exact h.past hb fun x hx => ⟨0, .int .i64 x.1, rfl, fun o hc => pvc_int _ (own_all hO hp hv hc)⟩
/-- Changes in a slice of one's own, their rows in memory of their own. -/
structure ChSt (w : World) (v : Value) (Z : List CM) (wr : World) : Prop where
  own : Ow 25 3 chc w.heap.size wr v Z
  pv : OwP PvC wr v
  rows : ∀ y ∈ Z, Vs wr y.A y.row.length y.cap y.row ∧ ∀ ad, y.A = some ad → w.heap.size ≤ ad.block ∧ ad.block < wr.heap.size
theorem ChSt.start (w wr : World) : ChSt w (.slice none 0 0) [] wr := ⟨Ow.nil_ _, OwP.none_ _ _ _ _, (fun z hz => by cases hz)⟩
theorem ChSt.ev {w wr wq : World} {v : Value} {Z : List CM} (h : ChSt w v Z wr) (hE : Ev wr wq) : ChSt w v Z wq := ⟨h.own.ev hE, h.pv.ev h.own hE, fun z hz => ⟨(h.rows z hz).1.ev hE, fun ad ea => ⟨((h.rows z hz).2 ad ea).1, Nat.lt_of_lt_of_le ((h.rows z hz).2 ad ea).2 hE.size⟩⟩⟩
theorem ChSt.high {w wr : World} {v : Value} {Z : List CM} (h : ChSt w v Z wr) : ∀ k ∈ foot v, w.heap.size ≤ k ∧ k < wr.heap.size := fun k hk => h.own.lt (mem_foot.1 hk)
theorem ChSt.sl {w wr : World} {A : Option Addr} {n c : Nat} {Z : List CM} (h : ChSt w (.slice A n c) Z wr) : Sl 3 chc wr A n c Z := by
  obtain ⟨A1, c1, e, hS, _⟩ := h.own.form encCh
  injection e with e1 e2 e3
  subst e1; subst e2; subst e3
  exact hS
theorem ChSt.chs {w wr : World} {A : Option Addr} {n c : Nat} {Z : List CM} (h : ChSt w (.slice A n c) Z wr) : ChsAt wr A n c Z := ⟨h.sl, fun x hx => ⟨(h.rows x hx).1, fun ad ea => ((h.rows x hx).2 ad ea).2⟩⟩
theorem ChSt.but {w wr wq : World} {v vo : Value} {Z Zo : List CM} (h : ChSt w v Z wr) (ho : ChSt w vo Zo wr) (hb : But (foot vo) wr wq) (hd : ∀ g ∈ foot v, g ∉ foot vo) : ChSt w v Z wq := by
  refine ⟨h.own.but hb fun g hg => hd g (mem_foot.2 hg), fun g hg cs T q hc u hu => ?_, fun z hz => ⟨vs_pastC ho.own ho.pv hb (h.rows z hz).1, fun ad ea => ⟨((h.rows z hz).2 ad ea).1, Nat.lt_of_lt_of_le ((h.rows z hz).2 ad ea).2 hb.size⟩⟩⟩
  have h1 := (h.own.lt hg).2
  exact h.pv g hg cs T q (by rw [← hb.block g h1 (hd g (mem_foot.2 hg))]; exact hc) u hu
theorem ChSt.snoc_ {w wq w9 : World} {v v9 : Value} {Z : List CM} {y : CM} (h : ChSt w v Z wq) (h3 : Vs wq y.A y.row.length y.cap y.row) (h4 : ∀ ad, y.A = some ad → w.heap.size ≤ ad.block ∧ ad.block < wq.heap.size)
    (hA : AppSt 25 3 chc w.heap.size wq v (Z ++ [y]) v9 w9) (hP : OwP PvC w9 v9) : ChSt w v9 (Z ++ [y]) w9 := by
  refine ⟨hA.1, hP, fun z hz => ?_⟩
  rcases List.mem_append.1 hz with hz | hz
  · exact ⟨vs_pastC h.own h.pv hA.2.1 (h.rows z hz).1, fun ad ea => ⟨((h.rows z hz).2 ad ea).1, Nat.lt_of_lt_of_le ((h.rows z hz).2 ad ea).2 hA.2.1.size⟩⟩
  · rw [List.mem_singleton.1 hz]
    exact ⟨vs_pastC h.own h.pv hA.2.1 h3, fun ad ea => ⟨(h4 ad ea).1, Nat.lt_of_lt_of_le (h4 ad ea).2 hA.2.1.size⟩⟩
/-- Two such slices. -/
structure TcSt (w1 : World) (tv uv : Value) (Zt Zu : List CM) (wr : World) : Prop where
  t : ChSt w1 tv Zt wr
  u : ChSt w1 uv Zu wr
  apart : ∀ g ∈ foot tv, g ∉ foot uv
  ev : Ev w1 wr
theorem TcSt.swap {w1 wr : World} {tv uv : Value} {Zt Zu : List CM} (h : TcSt w1 tv uv Zt Zu wr) : TcSt w1 uv tv Zu Zt wr := ⟨h.u, h.t, fun g h1 h2 => h.apart g h2 h1, h.ev⟩
theorem TcSt.up {w1 wr wq : World} {tv uv : Value} {Zt Zu : List CM} (h : TcSt w1 tv uv Zt Zu wr) (hE : Ev wr wq) : TcSt w1 tv uv Zt Zu wq := ⟨h.t.ev hE, h.u.ev hE, h.apart, h.ev.trans hE⟩
theorem TcSt.start (w : World) : TcSt w (.slice none 0 0) (.slice none 0 0) [] [] w := ⟨ChSt.start w w, ChSt.start w w, (fun g hg => by simp [foot, Value.ownBlock] at hg), Ev.refl w⟩
theorem TcSt.app {w1 wq : World} {tv : Value} {A : Option Addr} {n c : Nat} {Zt Zu : List CM} {y : CM} (h : TcSt w1 tv (.slice A n c) Zt Zu wq) (h3 : Vs wq y.A y.row.length y.cap y.row) (h4 : ∀ ad, y.A = some ad → w1.heap.size ≤ ad.block ∧ ad.block < wq.heap.size) (hn : Zu.length < 1000000) :
    ∃ A' c' w', (Builtin.append_ #[30, 30] 30 #[.slice A n c, .slice (some ⟨wq.heap.size, 0, none⟩) 1 1]).run Tryz.prog (wq.alloc (.cells #[.string ⟨y.tab.toArray⟩, .slice y.A y.row.length y.cap, .bool y.rem] 25)) = .ok (.slice A' (n + 1) c') w' ∧ TcSt w1 tv (.slice A' (n + 1) c') Zt (Zu ++ [y]) w' ∧ But (foot (.slice A n c)) wq w' ∧ ∀ g ∈ foot (.slice A' (n + 1) c'), g ∈ foot (.slice A n c) ∨ wq.heap.size ≤ g := by
  have hl : Zu.length = n := h.u.sl.len
  have hE1 := Ev.alloc wq (.cells #[.string ⟨y.tab.toArray⟩, .slice y.A y.row.length y.cap, .bool y.rem] 25)
  have h1 := h.up hE1
  obtain ⟨v', w', hr, hA, hP⟩ := run_append_owPm (P := Tryz.prog) PvC encCh 30 30 Tryz.underlying_changes Tryz.infoChangeC rfl h1.u.own (some ⟨wq.heap.size, 0, none⟩) 1 1 [y] (Sl.one (et := 25) encCh wq y #[.string ⟨y.tab.toArray⟩, .slice y.A y.row.length y.cap, .bool y.rem] rfl) (by omega) (by simp; omega) (by simp; omega) h1.ev.size pvc_zero (fun z _ => pvc_c z) h1.u.pv
  have h2 := h1.u.snoc_ (h3.ev hE1) (fun ad ea => ⟨(h4 ad ea).1, Nat.lt_of_lt_of_le (h4 ad ea).2 hE1.size⟩) hA hP
  have h5 := h1.t.but h1.u hA.2.1 h1.apart
  have h6 : ∀ g ∈ foot tv, g ∉ foot v' := fun g hg hm => by
    rcases hA.2.2 g (mem_foot.1 hm) with h7 | h7
    · exact h1.apart g hg (mem_foot.2 h7)
    · have := (h1.t.high g hg).2
      omega
  have h8 : Ev w1 w' := ((But.of_ev h1.ev).then hA.2.1).ev fun g hg => (h1.u.high g hg).1
  have h10 : ∀ g ∈ foot v', g ∈ foot (.slice A n c) ∨ wq.heap.size ≤ g := fun g hg => (hA.2.2 g (mem_foot.1 hg)).imp (fun e => mem_foot.2 e) (fun e => Nat.le_trans hE1.size e)
  have h9 := (But.of_ev (K := foot (.slice A n c)) hE1).then hA.2.1
  obtain ⟨A', c', rfl, _⟩ := h2.own.form encCh
  rw [List.length_append, hl] at hr h2 h6 h10
  exact ⟨A', c', w', hr, ⟨h5, h2, h6, h8⟩, h9, h10⟩
theorem vs_box {wr wq : World} {bx : Nat} {s : ByteArray} {B : Option Addr} {k d : Nat} {b : Bool} (hX : Bx 25 bx #[.string s, .slice B k d, .bool b] wr) (hb : But [bx] wr wq) {A : Option Addr} {n c : Nat} {r : List V} (h : Vs wr A n c r) : Vs wq A n c r :=
  h.past hb fun x hx => ⟨0, .int .i64 x.1, rfl, fun o hc => by
    rw [hX.cell] at hc
    match o, hc with
    | 0, hc => cases hc
    | 1, hc => cases hc
    | 2, hc => cases hc
    | _ + 3, hc => simp at hc⟩
theorem ChSt.box {w wr wq : World} {v : Value} {Z : List CM} {bx : Nat} {s : ByteArray} {B : Option Addr} {k d : Nat} {b : Bool} (h : ChSt w v Z wr) (hX : Bx 25 bx #[.string s, .slice B k d, .bool b] wr) (hb : But [bx] wr wq) (hd : bx ∉ foot v) : ChSt w v Z wq := by
  have hd2 : ∀ g, v.ownBlock = some g → g ∉ [bx] := fun g hg hm => hd (by rw [← List.mem_singleton.1 hm]; exact mem_foot.2 hg)
  refine ⟨h.own.but hb hd2, fun g hg cs T q hc u hu => ?_, fun z hz => ⟨vs_box hX hb (h.rows z hz).1, fun ad ea => ⟨((h.rows z hz).2 ad ea).1, Nat.lt_of_lt_of_le ((h.rows z hz).2 ad ea).2 hb.size⟩⟩⟩
  have h1 := (h.own.lt hg).2
  exact h.pv g hg cs T q (by rw [← hb.block g h1 (hd2 g hg)]; exact hc) u hu
theorem TcSt.box {w1 wr wq : World} {tv uv : Value} {Zt Zu : List CM} {bx : Nat} {s : ByteArray} {B : Option Addr} {k d : Nat} {b : Bool} (h : TcSt w1 tv uv Zt Zu wr) (hX : Bx 25 bx #[.string s, .slice B k d, .bool b] wr) (hb : But [bx] wr wq) (hd : bx ∉ foot tv) (hd' : bx ∉ foot uv) (hw : w1.heap.size ≤ bx) : TcSt w1 tv uv Zt Zu wq :=
  ⟨h.t.box hX hb hd, h.u.box hX hb hd', h.apart, ((But.of_ev h.ev).then hb).ev fun g hg => by rw [List.mem_singleton.1 hg]; exact hw⟩
/-- One change more, first added, then to be taken back. -/
theorem TcSt.both {w1 wr wt : World} {SA BA : Option Addr} {k sc bc : Nat} {L : List CM} (h : TcSt w1 (.slice SA k sc) (.slice BA k bc) (L.map (CM.re false)) (L.map (CM.re true)) wr) (hk : k ≤ 8) (hE : Ev wr wt) (y : CM) (hy : Vs wt y.A y.row.length y.cap y.row) (hlow : ∀ ad, y.A = some ad → wr.heap.size ≤ ad.block ∧ ad.block < wt.heap.size) (r0 : Bool) (bx : Nat) (hbx : bx = wt.heap.size) (wx : World) (hwx : wx = wt.alloc (.cells #[.string ⟨y.tab.toArray⟩, .slice y.A y.row.length y.cap, .bool r0] 25)) :
    ∃ SA' sc' w9, (Builtin.append_ #[30, 30] 30 #[.slice SA k sc, .slice (some ⟨(wx.setCell ⟨bx, 2, none⟩ (.bool false)).heap.size, 0, none⟩) 1 1]).run Tryz.prog ((wx.setCell ⟨bx, 2, none⟩ (.bool false)).alloc (.cells #[.string ⟨y.tab.toArray⟩, .slice y.A y.row.length y.cap, .bool false] 25)) = .ok (.slice SA' (k + 1) sc') w9 ∧
      Bx 25 bx #[.string ⟨y.tab.toArray⟩, .slice y.A y.row.length y.cap, .bool false] w9 ∧
      ∃ BA' bc' w10, (Builtin.append_ #[30, 30] 30 #[.slice BA k bc, .slice (some ⟨(w9.setCell ⟨bx, 2, none⟩ (.bool true)).heap.size, 0, none⟩) 1 1]).run Tryz.prog ((w9.setCell ⟨bx, 2, none⟩ (.bool true)).alloc (.cells #[.string ⟨y.tab.toArray⟩, .slice y.A y.row.length y.cap, .bool true] 25)) = .ok (.slice BA' (k + 1) bc') w10 ∧
        TcSt w1 (.slice SA' (k + 1) sc') (.slice BA' (k + 1) bc') ((L ++ [y]).map (CM.re false)) ((L ++ [y]).map (CM.re true)) w10 := by
  subst hbx
  have hX : Bx 25 wt.heap.size #[.string ⟨y.tab.toArray⟩, .slice y.A y.row.length y.cap, .bool r0] wx := hwx ▸ Bx.new _ _ _
  have hE1 : Ev wt wx := hwx ▸ Ev.alloc _ _
  have hX1 := hX.set 2 (.bool false)
  have b1 : But [wt.heap.size] wx (wx.setCell ⟨wt.heap.size, 2, none⟩ (.bool false)) := But.setCell _ _ (by simp)
  have ht1 : Ev wt (wx.setCell ⟨wt.heap.size, 2, none⟩ (.bool false)) := ((But.of_ev hE1).then b1).ev fun g hg => by rw [List.mem_singleton.1 hg]; exact Nat.le_refl _
  generalize hw1x : wx.setCell ⟨wt.heap.size, 2, none⟩ (.bool false) = wx1 at *
  have hll : (L.map (CM.re false)).length = k := h.t.sl.len
  have hlb : (L.map (CM.re true)).length = k := h.u.sl.len
  have hsz := hE.size
  have hf1 : wt.heap.size ∉ foot (.slice SA k sc) := fun hm => by have := (h.t.high _ hm).2; omega
  have hf2 : wt.heap.size ∉ foot (.slice BA k bc) := fun hm => by have := (h.u.high _ hm).2; omega
  have hgt : wt.heap.size < wx1.heap.size := hX1.lt
  obtain ⟨SA', sc', w9, hr9, h9, hb9, hf9⟩ := (h.up (hE.trans ht1)).swap.app (y := CM.re false y) (hy.ev ht1) (fun ad ea => ⟨Nat.le_trans h.ev.size ((hlow ad ea).1), Nat.lt_of_lt_of_le (hlow ad ea).2 ht1.size⟩) (by omega)
  have hX9 := hX1.but hb9 hf1
  have hf3 : wt.heap.size ∉ foot (.slice SA' (k + 1) sc') := fun hm => by
    rcases hf9 _ hm with h5 | h5
    · exact hf1 h5
    · omega
  have b9 : But [wt.heap.size] w9 (w9.setCell ⟨wt.heap.size, 2, none⟩ (.bool true)) := But.setCell _ _ (by simp)
  have hw1 : w1.heap.size ≤ wt.heap.size := (h.ev.trans hE).size
  have h9s := h9.box hX9 b9 hf2 hf3 hw1
  have hrow := h9.u.rows (CM.re false y) (List.mem_append_right _ (List.mem_singleton.2 rfl))
  obtain ⟨BA', bc', w10, hr10, h10, _, _⟩ := h9s.swap.app (y := CM.re true y) (vs_box hX9 b9 hrow.1) (fun ad ea => ⟨(hrow.2 ad ea).1, Nat.lt_of_lt_of_le (hrow.2 ad ea).2 b9.size⟩) (by omega)
  refine ⟨SA', sc', w9, hr9, hX9, BA', bc', w10, hr10, ?_⟩
  rw [List.map_append, List.map_append]
  exact h10
end Go.Proofs.YthpiobkghfdkkaaGreat

namespace Go.Proofs.YthpiobkghfdkkaaGreat
open Go.RowKit
set_option linter.unusedVariables false

theorem TsAt.two_cells {w : World} {g cap : Nat} {t u : TM} (h : TsAt w (some ⟨g, 0, none⟩) 2 cap [t, u]) : w.cell? ⟨g, 2, none⟩ = some (.slice t.rA t.rows.length t.rc) ∧ g < w.heap.size ∧ w.cell? ⟨g, 5, none⟩ = some (.slice u.rA u.rows.length u.rc) := by
  obtain ⟨b, off, e, hlt, _, _, h1⟩ := h.cell (i := 0) (t := t) rfl
  obtain ⟨b', off', e', _, _, _, h2⟩ := h.cell (i := 1) (t := u) rfl
  injection e with e
  injection e with e1 e2 _
  subst e1; subst e2
  injection e' with e'
  injection e' with e1 e2 _
  subst e1; subst e2
  exact ⟨by simpa using h1, hlt, by simpa using h2⟩
theorem same_rows {w3 : World} {A B : Option Addr} {c d m : Nat} {q : Bool} {S T : List I} (w4 : World) (h : SetIn S w3 A S.length c) (h' : SetIn T w3 B T.length d) (e : S = T) (hE : Ev w3 w4) (hk : SOk q m T) : Calls Tryz.prog 22 #[.slice A S.length c, .slice B T.length d] w4 (Yes w4) := by
  subst e
  exact zset_same w4 (h.ev hE) (h'.ev hE) hk.z.parts hk.z.set hk.z.right

set_option maxRecDepth 100000 in
set_option maxHeartbeats 2000000 in
theorem back_walk {B C : Option Addr} {n cap n2 cap2 : Nat} {l l2 : List CM} (w : World) (h : ChsIn w B n cap l) (h' : ChsIn w C n2 cap2 l2) :
    Calls Tryz.prog 6 #[.slice B n cap, .slice C n2 cap2] w fun e w' => e = .returned (.bool true) ∧ Ev w w' := by
  have hmix : Tryz.prog.follows .mixedOrders = true := by kernel_rfl
  have hcl := h'.sl.le
  have hcm := h'.sl.max
  have HL := Lib.hid h'.sl.len
  have H := Lib.hid h'
  have HTB := Lib.hid (law16_tables w h)
  have HKN := Lib.hid (fun w1 => law16_known w1)
  clear h h'
  go_enter Tryz.func6, Tryz.ntmps6
  go_wp2_with (first
    | ((with_reducible refine (HTB.out).mono ?_); rintro r w1 ⟨m0, g0, tU, tT, rfl, _, hm0, hts, hut, hE⟩; have HTS := Lib.hid hts; have HUT := Lib.hid hut; have E1 := Lib.hid hE; clear hts hut hE))
  go_loopw [6, 7, 8] (fun sv bv iv wr => ∃ (SA BA : Option Addr) (sc bc k : Nat) (L : List CM), sv = .slice SA k sc ∧ bv = .slice BA k bc ∧ iv = .int .i64 (k : Int) ∧ k ≤ n2 ∧ k ≤ 8 ∧ Hid (TcSt w1 (.slice SA k sc) (.slice BA k bc) (L.map (CM.re false)) (L.map (CM.re true)) wr) ∧ Hid (∀ y ∈ L, ChOk y)) (fun _ _ iv _ => n2 - (intOf iv).toNat)
  case atStart => exact ⟨none, none, 0, 0, 0, [], rfl, rfl, rfl, Nat.zero_le _, Nat.zero_le _, Lib.hid (TcSt.start _), Lib.hid (fun y hy => by cases hy)⟩
  case round =>
    obtain ⟨SA, BA, sc, bc, k, L, rfl, rfl, rfl, hk, hk8, HTC, HLK⟩ := hrel
    by_cases hlt : k < n2 ∧ k < 8
    · obtain ⟨hlt, hl8⟩ := hlt
      obtain ⟨x, hx⟩ := H.out.sl.at hlt
      have HXR := Lib.hid (H.out.each x (List.mem_of_getElem? hx))
      obtain ⟨b, off, rfl, hb, c0, c1, c2⟩ := (H.out.ev (E1.out.trans HTC.out.ev)).cell hx
      have i1 : (0 : Int) ≤ (k : Int) := by omega
      have i2 : (k : Int) < (n2 : Int) := by omega
      have i3 : (k : Int) < 8 := by omega
      have hv0 : (⟨x.tab.toArray⟩ : ByteArray) = x.bs := rfl
      rw [hv0] at c0
      clear hx hv0
      cases hq : decide (x.bs.size % 2 = 0)
      · have HTM := Lib.hid (fun w1_ (hE : Ev wr w1_) => tame_q x false hq w1_ (HXR.out.ev ((E1.out.trans HTC.out.ev).trans hE)))
        unfold TameOutA at HTM
        simp only [cond_false] at HTM
        clear hq
        go_upto_region 7 with (first
          | ((with_reducible refine (HTM.out _ (Ev.refl _)).mono ?_); rintro r wt ⟨TB, bk, bc_, rfl, hV, hVb, hE⟩; have HV := Lib.hid hV; have HVB := Lib.hid hVb; have ET := Lib.hid hE; clear hV hVb hE))
        have hbk : bk = (tameX false x.row).length := HV.out.len.symm
        subst hbk
        obtain ⟨wx, hwx, hX⟩ : ∃ wx, wt.alloc (.cells #[.string ⟨#[117]⟩, .slice TB (tameX false x.row).length bc_, .bool x.rem] 25) = wx ∧ Bx 25 wt.heap.size #[.string ⟨#[117]⟩, .slice TB (tameX false x.row).length bc_, .bool x.rem] wx := ⟨_, rfl, Bx.new _ _ _⟩
        rw [hwx]
        obtain ⟨bx, hbx⟩ : ∃ bx, bx = wt.heap.size := ⟨_, rfl⟩
        have hyk : ChOk ⟨nmT false, TB, bc_, tameX false x.row, x.rem⟩ := ⟨false, rfl, tameX_fits false _, tameX_right false _⟩
        have HYK := Lib.hid hyk
        have HBO := HTC.out.both hk8 ET.out ⟨nmT false, TB, bc_, tameX false x.row, x.rem⟩ HV.out HVB.out x.rem bx hbx wx hwx.symm
        rw [← hbx] at hX ⊢
        clear hwx hbx hyk
        have hX1 := hX.set 2 (.bool false)
        obtain ⟨SA9, sc9, w9, hr9, hX9, BA9, bc9, w10, hr10, ht10⟩ := HBO
        have hX9s := hX9.set 2 (.bool true)
        have HT10 := Lib.hid ht10
        obtain ⟨⟨x0, x1, x2⟩, z0, z1, z2⟩ := hX.three
        have hbl := hX.lt
        obtain ⟨⟨y0, y1, y2⟩, _⟩ := (show Bx 25 bx #[.string ⟨#[117]⟩, .slice TB (tameX false x.row).length bc_, .bool false] (wx.setCell ⟨bx, 2, none⟩ (.bool false)) from hX1).three
        obtain ⟨⟨v0, v1, v2⟩, u0, u1, u2⟩ := (show Bx 25 bx #[.string ⟨#[117]⟩, .slice TB (tameX false x.row).length bc_, .bool false] w9 from hX9).three
        have hbl9 := hX9.lt
        obtain ⟨⟨s0, s1, s2⟩, _⟩ := (show Bx 25 bx #[.string ⟨#[117]⟩, .slice TB (tameX false x.row).length bc_, .bool true] (w9.setCell ⟨bx, 2, none⟩ (.bool true)) from hX9s).three
        change (Builtin.append_ #[30, 30] 30 #[.slice SA k sc, .slice (some ⟨(wx.setCell ⟨bx, 2, none⟩ (.bool false)).heap.size, 0, none⟩) 1 1]).run Tryz.prog ((wx.setCell ⟨bx, 2, none⟩ (.bool false)).alloc (.cells #[.string ⟨#[117]⟩, .slice TB (tameX false x.row).length bc_, .bool false] 25)) = .ok (.slice SA9 (k + 1) sc9) w9 at hr9
        change (Builtin.append_ #[30, 30] 30 #[.slice BA k bc, .slice (some ⟨(w9.setCell ⟨bx, 2, none⟩ (.bool true)).heap.size, 0, none⟩) 1 1]).run Tryz.prog ((w9.setCell ⟨bx, 2, none⟩ (.bool true)).alloc (.cells #[.string ⟨#[117]⟩, .slice TB (tameX false x.row).length bc_, .bool true] 25)) = .ok (.slice BA9 (k + 1) bc9) w10 at hr10
        rw [show (wx.setCell ⟨bx, 2, none⟩ (.bool false)).heap.size = wx.heap.size from by simp] at hr9
        rw [show (w9.setCell ⟨bx, 2, none⟩ (.bool true)).heap.size = w9.heap.size from by simp] at hr10
        clear hX hX1 hX9 hX9s ht10
        go_wp2_with (first
          | ((show wpList _ _ _ (⟨some 39, _, _, _, _, _⟩ :: _) _ _); refine Lib.wpList_append_run _ rfl _ _ _ _ rfl _ _ rfl rfl _ _ hr9 ?_)
          | ((show wpList _ _ _ (⟨some 44, _, _, _, _, _⟩ :: _) _ _); refine Lib.wpList_append_run _ rfl _ _ _ _ rfl _ _ rfl rfl _ _ hr10 ?_))
        go_roundw
        case rel => exact ⟨SA9, BA9, sc9, bc9, k + 1, L ++ [⟨nmT false, TB, bc_, tameX false x.row, x.rem⟩], rfl, rfl, by go_num, by omega, by omega, HT10, Lib.hid (fun y hy => by
          rcases List.mem_append.1 hy with hy | hy
          · exact HLK.out y hy
          · rw [List.mem_singleton.1 hy]
            exact HYK.out)⟩
        case measure => simp [intOf]; omega
      · have HTM := Lib.hid (fun w1_ (hE : Ev wr w1_) => tame_q x true hq w1_ (HXR.out.ev ((E1.out.trans HTC.out.ev).trans hE)))
        unfold TameOutA at HTM
        simp only [cond_true] at HTM
        clear hq
        go_upto_region 7 with (first
          | ((with_reducible refine (HTM.out _ (Ev.refl _)).mono ?_); rintro r wt ⟨TB, bk, bc_, rfl, hV, hVb, hE⟩; have HV := Lib.hid hV; have HVB := Lib.hid hVb; have ET := Lib.hid hE; clear hV hVb hE))
        have hbk : bk = (tameX true x.row).length := HV.out.len.symm
        subst hbk
        obtain ⟨wx, hwx, hX⟩ : ∃ wx, wt.alloc (.cells #[.string ⟨#[116]⟩, .slice TB (tameX true x.row).length bc_, .bool x.rem] 25) = wx ∧ Bx 25 wt.heap.size #[.string ⟨#[116]⟩, .slice TB (tameX true x.row).length bc_, .bool x.rem] wx := ⟨_, rfl, Bx.new _ _ _⟩
        rw [hwx]
        obtain ⟨bx, hbx⟩ : ∃ bx, bx = wt.heap.size := ⟨_, rfl⟩
        have hyk : ChOk ⟨nmT true, TB, bc_, tameX true x.row, x.rem⟩ := ⟨true, rfl, tameX_fits true _, tameX_right true _⟩
        have HYK := Lib.hid hyk
        have HBO := HTC.out.both hk8 ET.out ⟨nmT true, TB, bc_, tameX true x.row, x.rem⟩ HV.out HVB.out x.rem bx hbx wx hwx.symm
        rw [← hbx] at hX ⊢
        clear hwx hbx hyk
        have hX1 := hX.set 2 (.bool false)
        obtain ⟨SA9, sc9, w9, hr9, hX9, BA9, bc9, w10, hr10, ht10⟩ := HBO
        have hX9s := hX9.set 2 (.bool true)
        have HT10 := Lib.hid ht10
        obtain ⟨⟨x0, x1, x2⟩, z0, z1, z2⟩ := hX.three
        have hbl := hX.lt
        obtain ⟨⟨y0, y1, y2⟩, _⟩ := (show Bx 25 bx #[.string ⟨#[116]⟩, .slice TB (tameX true x.row).length bc_, .bool false] (wx.setCell ⟨bx, 2, none⟩ (.bool false)) from hX1).three
        obtain ⟨⟨v0, v1, v2⟩, u0, u1, u2⟩ := (show Bx 25 bx #[.string ⟨#[116]⟩, .slice TB (tameX true x.row).length bc_, .bool false] w9 from hX9).three
        have hbl9 := hX9.lt
        obtain ⟨⟨s0, s1, s2⟩, _⟩ := (show Bx 25 bx #[.string ⟨#[116]⟩, .slice TB (tameX true x.row).length bc_, .bool true] (w9.setCell ⟨bx, 2, none⟩ (.bool true)) from hX9s).three
        change (Builtin.append_ #[30, 30] 30 #[.slice SA k sc, .slice (some ⟨(wx.setCell ⟨bx, 2, none⟩ (.bool false)).heap.size, 0, none⟩) 1 1]).run Tryz.prog ((wx.setCell ⟨bx, 2, none⟩ (.bool false)).alloc (.cells #[.string ⟨#[116]⟩, .slice TB (tameX true x.row).length bc_, .bool false] 25)) = .ok (.slice SA9 (k + 1) sc9) w9 at hr9
        change (Builtin.append_ #[30, 30] 30 #[.slice BA k bc, .slice (some ⟨(w9.setCell ⟨bx, 2, none⟩ (.bool true)).heap.size, 0, none⟩) 1 1]).run Tryz.prog ((w9.setCell ⟨bx, 2, none⟩ (.bool true)).alloc (.cells #[.string ⟨#[116]⟩, .slice TB (tameX true x.row).length bc_, .bool true] 25)) = .ok (.slice BA9 (k + 1) bc9) w10 at hr10
        rw [show (wx.setCell ⟨bx, 2, none⟩ (.bool false)).heap.size = wx.heap.size from by simp] at hr9
        rw [show (w9.setCell ⟨bx, 2, none⟩ (.bool true)).heap.size = w9.heap.size from by simp] at hr10
        clear hX hX1 hX9 hX9s ht10
        go_wp2_with (first
          | ((show wpList _ _ _ (⟨some 39, _, _, _, _, _⟩ :: _) _ _); refine Lib.wpList_append_run _ rfl _ _ _ _ rfl _ _ rfl rfl _ _ hr9 ?_)
          | ((show wpList _ _ _ (⟨some 44, _, _, _, _, _⟩ :: _) _ _); refine Lib.wpList_append_run _ rfl _ _ _ _ rfl _ _ rfl rfl _ _ hr10 ?_))
        go_roundw
        case rel => exact ⟨SA9, BA9, sc9, bc9, k + 1, L ++ [⟨nmT true, TB, bc_, tameX true x.row, x.rem⟩], rfl, rfl, by go_num, by omega, by omega, HT10, Lib.hid (fun y hy => by
          rcases List.mem_append.1 hy with hy | hy
          · exact HLK.out y hy
          · rw [List.mem_singleton.1 hy]
            exact HYK.out)⟩
        case measure => simp [intOf]; omega
    · have hml := HTC.out.t.sl.len
      have HLL : Hid (L.length = k) := Lib.hid (by rw [← hml, List.length_map])
      have HTW := Lib.hid (HTS.out.ev HTC.out.ev)
      have EW := Lib.hid (E1.out.trans HTC.out.ev)
      have i3 : ¬ ((k : Int) < (n2 : Int) ∧ (k : Int) < 8) := by omega
      have HAA : Hid (0 < k → ∀ w2, Ev wr w2 → Calls Tryz.prog 20 #[.slice (some ⟨g0, 0, none⟩) 2 2, .slice SA k sc] w2 (ApplyOut m0 (L.map (CM.re false)) tU tT w2)) := Lib.hid (fun h0 w2 hE => bt_Apply w2 (HTW.out.ev hE) HUT.out (by omega) ((HTC.out.t.ev hE).chs) (fun y hy => by
        obtain ⟨z, hz, rfl⟩ := List.mem_map.1 hy
        exact HLK.out z hz) (by omega))
      have HM0 := Lib.hid hm0
      by_cases hkn : k < n2
      · have i2 : (k : Int) < (n2 : Int) := by omega
        have i4 : ¬ (k : Int) < 8 := by omega
        clear i3
        by_cases hk0 : k = 0
        · exfalso
          omega
        · have e0 : ¬ ((k : Int) = 0) := by omega
          have HK1 : Hid (0 < k ∧ k ≤ 8) := Lib.hid (by omega)
          go_upto_region 17 with (first
            | ((with_reducible refine (HAA.out HK1.out.1 _ (Ev.refl _)).mono ?_); intro r w2 hap; obtain ⟨hE2, g1, cap1, tU1, tT1, A1, n1, c1_, Z1, dT1, dU1, rfl, hts1, hb1, _⟩ := hap.good (by rw [List.length_map, HLL.out]; exact HK1.out.1) (by rw [List.length_map, HLL.out]; exact HK1.out.2) (fun k_ y_ q_ tU_ tT_ hy_ _ hb_ => adds_taken (by rw [HLL.out]; have := HK1.out.2; have := HM0.out; omega) k_ y_ q_ tU_ tT_ hy_ hb_); have HT1 := Lib.hid (show TsAt w2 (some ⟨g1, 0, none⟩) 2 cap1 [tU1, tT1] from hts1.ts); have HB1 := Lib.hid hb1; have E2 := Lib.hid (EW.out.trans hE2); have F2 := Lib.hid hE2; have HBB := Lib.hid (bt_Apply w2 HT1.out hb1.ut (by rw [List.length_map, HLL.out]; have := HK1.out.2; have := HM0.out; omega) ((HTC.out.u.ev hE2).chs) (fun y hy => by
                obtain ⟨z, hz, rfl⟩ := List.mem_map.1 hy
                exact HLK.out z hz) (by have := HK1.out.2; omega)); clear hts1 hb1 hE2 hap)
            | ((with_reducible refine (HBB.out).mono ?_); intro r w3 hap; obtain ⟨hE3, g2, cap2_, tU2, tT2, A2, n2_, c2_, Z2, dT2, dU2, rfl, hts2, hb2, _⟩ := hap.good (by rw [List.length_map, HLL.out]; exact HK1.out.1) (by rw [List.length_map, HLL.out]; exact HK1.out.2) (fun k_ y_ q_ tU_ tT_ hy_ hq_ hb_ => back_taken HUT.out HB1.out k_ y_ q_ tU_ tT_ hy_ hq_ hb_); have HT2 := Lib.hid (show TsAt w3 (some ⟨g2, 0, none⟩) 2 cap2_ [tU2, tT2] from hts2.ts); have HSU := Lib.hid (show tU2.rows = tU.rows from back_same HUT.out HB1.out hb2 false); have HST := Lib.hid (show tT2.rows = tT.rows from back_same HUT.out HB1.out hb2 true); have E3 := Lib.hid (E2.out.trans hE3); have HT0 := Lib.hid ((HTW.out.ev F2.out).ev hE3); clear hts2 hb2 hE3 hap))
          obtain ⟨a0, la0, a1⟩ := HT2.out.two_cells
          obtain ⟨b0, lb0, b1⟩ := HT0.out.two_cells
          have la1 := la0
          have lb1 := lb0
          have HSA := Lib.hid (fun w4 (hE : Ev w3 w4) => same_rows w4 (HT2.out.each tU2 (by simp)).rows (HT0.out.each tU (by simp)).rows HSU.out hE HUT.out.sU)
          have HSB := Lib.hid (fun w4 (hE : Ev w3 w4) => same_rows w4 (HT2.out.each tT2 (by simp)).rows (HT0.out.each tT (by simp)).rows HST.out hE HUT.out.sT)
          unfold Yes at HSA HSB
          refine wp_region_slots hmix [fun v _ => v = .slice (some ⟨g2, 0, none⟩) 2 cap2_, fun v _ => v = .pointer (some ⟨g2, 0, none⟩), fun v _ => v = .pointer (some ⟨g2, 2, none⟩), fun v _ => v = .slice tU2.rA tU2.rows.length tU2.rc, fun v _ => v = .slice (some ⟨g0, 0, none⟩) 2 2, fun v _ => v = .pointer (some ⟨g0, 0, none⟩), fun v _ => v = .pointer (some ⟨g0, 2, none⟩), fun v _ => v = .slice tU.rA tU.rows.length tU.rc, fun v _ => v = .bool true, fun v _ => v = .bool true, fun v _ => v = .slice (some ⟨g2, 0, none⟩) 2 cap2_, fun v _ => v = .pointer (some ⟨g2, 3, none⟩), fun v _ => v = .pointer (some ⟨g2, 5, none⟩), fun v _ => v = .slice tT2.rA tT2.rows.length tT2.rc, fun v _ => v = .slice (some ⟨g0, 0, none⟩) 2 2, fun v _ => v = .pointer (some ⟨g0, 3, none⟩), fun v _ => v = .pointer (some ⟨g0, 5, none⟩), fun v _ => v = .slice tT.rA tT.rows.length tT.rc, fun v _ => v = .bool true, fun v _ => v = .bool true, fun v _ => v = .bool true, fun v _ => v = .bool true, fun v _ => v = .bool true, fun v _ => v = .bool true]
            104 rfl (by kernel_rfl) ⟨mono_eq _, mono_eq _, mono_eq _, mono_eq _, mono_eq _, mono_eq _, mono_eq _, mono_eq _, mono_eq _, mono_eq _, mono_eq _, mono_eq _, mono_eq _, mono_eq _, mono_eq _, mono_eq _, mono_eq _, mono_eq _, mono_eq _, mono_eq _, mono_eq _, mono_eq _, mono_eq _, mono_eq _, trivial⟩ ?_ ?_
          · refine ops_cons 0 ?_ (ops_cons 1 ?_ (ops_cons 2 ?_ (ops_cons 3 ?_ (ops_cons 4 ?_ (ops_cons 5 ?_ (ops_cons 6 ?_ (ops_cons 7 ?_ (ops_cons 8 ?_ (ops_cons 9 ?_ (ops_cons 10 ?_ (ops_cons 11 ?_ (ops_cons 12 ?_ (ops_cons 13 ?_ (ops_cons 14 ?_ (ops_cons 15 ?_ (ops_cons 16 ?_ (ops_cons 17 ?_ (ops_cons 18 ?_ (ops_cons 19 ?_ (ops_cons 20 ?_ (ops_cons 21 ?_ (ops_cons 22 ?_ (ops_cons 23 ?_ (ops_nil 24))))))))))))))))))))))))
            · refine op_value fun a wq c => ⟨(wanted_plain rfl), _, run_move _ rfl wq, (c.was 14 (by kernel_rfl) rfl)⟩
            · refine op_value fun a wq c => ⟨(wanted_plain rfl), .pointer (some ⟨g2, 0, none⟩), ?_, rfl⟩
              have e81 : a.eval (.tmp 81) = .slice (some ⟨g2, 0, none⟩) 2 cap2_ := (c.new 0 81 (by kernel_rfl) (by kernel_rfl))
              have kc0 : a.eval (.const (.int .i64 0)) = .int .i64 0 := rfl
              generalize a.eval = ρ at e81 kc0 ⊢
              simp [execOp, e81, kc0, go_sem]
            · refine op_value fun a wq c => ⟨(wanted_plain rfl), .pointer (some ⟨g2, 2, none⟩), ?_, rfl⟩
              have e82 : a.eval (.tmp 82) = .pointer (some ⟨g2, 0, none⟩) := (c.new 1 82 (by kernel_rfl) (by kernel_rfl))
              generalize a.eval = ρ at e82 ⊢
              simp [execOp, e82, go_sem]
            · refine op_value fun a wq c => ⟨(wanted_plain rfl), .slice tU2.rA tU2.rows.length tU2.rc, ?_, rfl⟩
              have e83 : a.eval (.tmp 83) = .pointer (some ⟨g2, 2, none⟩) := (c.new 2 83 (by kernel_rfl) (by kernel_rfl))
              have hc := (c.ev.cell (p := ⟨g2, 2, none⟩) la0).trans a0
              generalize a.eval = ρ at e83 ⊢
              simp [execOp, e83, hc, go_sem]
            · refine op_value fun a wq c => ⟨(wanted_plain rfl), _, run_move _ rfl wq, (c.was 5 (by kernel_rfl) rfl)⟩
            · refine op_value fun a wq c => ⟨(wanted_plain rfl), .pointer (some ⟨g0, 0, none⟩), ?_, rfl⟩
              have e85 : a.eval (.tmp 85) = .slice (some ⟨g0, 0, none⟩) 2 2 := (c.new 4 85 (by kernel_rfl) (by kernel_rfl))
              have kc0 : a.eval (.const (.int .i64 0)) = .int .i64 0 := rfl
              generalize a.eval = ρ at e85 kc0 ⊢
              simp [execOp, e85, kc0, go_sem]
            · refine op_value fun a wq c => ⟨(wanted_plain rfl), .pointer (some ⟨g0, 2, none⟩), ?_, rfl⟩
              have e86 : a.eval (.tmp 86) = .pointer (some ⟨g0, 0, none⟩) := (c.new 5 86 (by kernel_rfl) (by kernel_rfl))
              generalize a.eval = ρ at e86 ⊢
              simp [execOp, e86, go_sem]
            · refine op_value fun a wq c => ⟨(wanted_plain rfl), .slice tU.rA tU.rows.length tU.rc, ?_, rfl⟩
              have e87 : a.eval (.tmp 87) = .pointer (some ⟨g0, 2, none⟩) := (c.new 6 87 (by kernel_rfl) (by kernel_rfl))
              have hc := (c.ev.cell (p := ⟨g0, 2, none⟩) lb0).trans b0
              generalize a.eval = ρ at e87 ⊢
              simp [execOp, e87, hc, go_sem]
            · refine op_call fun a wq c => ⟨(wanted_plain rfl), 22, #[.slice tU2.rA tU2.rows.length tU2.rc, .slice tU.rA tU.rows.length tU.rc], ?_, ?_⟩
              · rw [run_call 22 _ _ rfl (by kernel_rfl)]
                have e84 : a.eval (.tmp 84) = .slice tU2.rA tU2.rows.length tU2.rc := (c.new 3 84 (by kernel_rfl) (by kernel_rfl))
                have e88 : a.eval (.tmp 88) = .slice tU.rA tU.rows.length tU.rc := (c.new 7 88 (by kernel_rfl) (by kernel_rfl))
                simp [e84, e88]
              · refine (HSA.out _ c.ev).mono ?_
                rintro e wp ⟨rfl, hE_⟩
                exact ⟨_, rfl, hE_, rfl⟩
            · refine op_value fun a wq c => ⟨(wanted_plain rfl), _, run_move _ rfl wq, (c.new 8 89 (by kernel_rfl) (by kernel_rfl))⟩
            · refine op_value fun a wq c => ⟨(wanted_yes rfl (by kernel_rfl) (c.new 9 90 (by kernel_rfl) (by kernel_rfl))), _, run_move _ rfl wq, (c.was 14 (by kernel_rfl) rfl)⟩
            · refine op_value fun a wq c => ⟨(wanted_yes rfl (by kernel_rfl) (c.new 9 90 (by kernel_rfl) (by kernel_rfl))), .pointer (some ⟨g2, 3, none⟩), ?_, rfl⟩
              have e91 : a.eval (.tmp 91) = .slice (some ⟨g2, 0, none⟩) 2 cap2_ := (c.new 10 91 (by kernel_rfl) (by kernel_rfl))
              have kc0 : a.eval (.const (.int .i64 1)) = .int .i64 1 := rfl
              generalize a.eval = ρ at e91 kc0 ⊢
              simp [execOp, e91, kc0, go_sem]
            · refine op_value fun a wq c => ⟨(wanted_yes rfl (by kernel_rfl) (c.new 9 90 (by kernel_rfl) (by kernel_rfl))), .pointer (some ⟨g2, 5, none⟩), ?_, rfl⟩
              have e92 : a.eval (.tmp 92) = .pointer (some ⟨g2, 3, none⟩) := (c.new 11 92 (by kernel_rfl) (by kernel_rfl))
              generalize a.eval = ρ at e92 ⊢
              simp [execOp, e92, go_sem]
            · refine op_value fun a wq c => ⟨(wanted_yes rfl (by kernel_rfl) (c.new 9 90 (by kernel_rfl) (by kernel_rfl))), .slice tT2.rA tT2.rows.length tT2.rc, ?_, rfl⟩
              have e93 : a.eval (.tmp 93) = .pointer (some ⟨g2, 5, none⟩) := (c.new 12 93 (by kernel_rfl) (by kernel_rfl))
              have hc := (c.ev.cell (p := ⟨g2, 5, none⟩) la1).trans a1
              generalize a.eval = ρ at e93 ⊢
              simp [execOp, e93, hc, go_sem]
            · refine op_value fun a wq c => ⟨(wanted_yes rfl (by kernel_rfl) (c.new 9 90 (by kernel_rfl) (by kernel_rfl))), _, run_move _ rfl wq, (c.was 5 (by kernel_rfl) rfl)⟩
            · refine op_value fun a wq c => ⟨(wanted_yes rfl (by kernel_rfl) (c.new 9 90 (by kernel_rfl) (by kernel_rfl))), .pointer (some ⟨g0, 3, none⟩), ?_, rfl⟩
              have e95 : a.eval (.tmp 95) = .slice (some ⟨g0, 0, none⟩) 2 2 := (c.new 14 95 (by kernel_rfl) (by kernel_rfl))
              have kc0 : a.eval (.const (.int .i64 1)) = .int .i64 1 := rfl
              generalize a.eval = ρ at e95 kc0 ⊢
              simp [execOp, e95, kc0, go_sem]
            · refine op_value fun a wq c => ⟨(wanted_yes rfl (by kernel_rfl) (c.new 9 90 (by kernel_rfl) (by kernel_rfl))), .pointer (some ⟨g0, 5, none⟩), ?_, rfl⟩
              have e96 : a.eval (.tmp 96) = .pointer (some ⟨g0, 3, none⟩) := (c.new 15 96 (by kernel_rfl) (by kernel_rfl))
              generalize a.eval = ρ at e96 ⊢
              simp [execOp, e96, go_sem]
            · refine op_value fun a wq c => ⟨(wanted_yes rfl (by kernel_rfl) (c.new 9 90 (by kernel_rfl) (by kernel_rfl))), .slice tT.rA tT.rows.length tT.rc, ?_, rfl⟩
              have e97 : a.eval (.tmp 97) = .pointer (some ⟨g0, 5, none⟩) := (c.new 16 97 (by kernel_rfl) (by kernel_rfl))
              have hc := (c.ev.cell (p := ⟨g0, 5, none⟩) lb1).trans b1
              generalize a.eval = ρ at e97 ⊢
              simp [execOp, e97, hc, go_sem]
            · refine op_call fun a wq c => ⟨(wanted_yes rfl (by kernel_rfl) (c.new 9 90 (by kernel_rfl) (by kernel_rfl))), 22, #[.slice tT2.rA tT2.rows.length tT2.rc, .slice tT.rA tT.rows.length tT.rc], ?_, ?_⟩
              · rw [run_call 22 _ _ rfl (by kernel_rfl)]
                have e94 : a.eval (.tmp 94) = .slice tT2.rA tT2.rows.length tT2.rc := (c.new 13 94 (by kernel_rfl) (by kernel_rfl))
                have e98 : a.eval (.tmp 98) = .slice tT.rA tT.rows.length tT.rc := (c.new 17 98 (by kernel_rfl) (by kernel_rfl))
                simp [e94, e98]
              · refine (HSB.out _ c.ev).mono ?_
                rintro e wp ⟨rfl, hE_⟩
                exact ⟨_, rfl, hE_, rfl⟩
            · refine op_value fun a wq c => ⟨(wanted_plain rfl), _, run_pick_true rfl (c.new 9 90 (by kernel_rfl) (by kernel_rfl)) wq, (c.new 18 99 (by kernel_rfl) (by kernel_rfl))⟩
            · refine op_value fun a wq c => ⟨(wanted_plain rfl), _, run_move _ rfl wq, (c.new 19 100 (by kernel_rfl) (by kernel_rfl))⟩
            · refine op_call fun a wq c => ⟨(wanted_yes rfl (by kernel_rfl) (c.new 20 101 (by kernel_rfl) (by kernel_rfl))), 17, #[], ?_, ?_⟩
              · rw [run_call 17 _ _ rfl (by kernel_rfl)]
                simp
              · refine (HKN.out _).mono ?_
                rintro e wp ⟨rfl, hE_⟩
                exact ⟨_, rfl, hE_, rfl⟩
            · refine op_value fun a wq c => ⟨(wanted_plain rfl), _, run_pick_true rfl (c.new 20 101 (by kernel_rfl) (by kernel_rfl)) wq, (c.new 21 102 (by kernel_rfl) (by kernel_rfl))⟩
            · refine op_value fun a wq c => ⟨(wanted_plain rfl), _, run_assign _ rfl wq, (c.new 22 103 (by kernel_rfl) (by kernel_rfl))⟩
          intro s w4 hE hold hnew
          have f5 : s 5 = .slice (some ⟨g0, 0, none⟩) 2 2 := hold 5 (by kernel_rfl)
          have f14 : s 14 = .slice (some ⟨g2, 0, none⟩) 2 cap2_ := hold 14 (by kernel_rfl)
          have f4 : s 4 = .bool true := hnew 23 4 (by kernel_rfl)
          have f81 : s 81 = .slice (some ⟨g2, 0, none⟩) 2 cap2_ := hnew 0 81 (by kernel_rfl)
          have f82 : s 82 = .pointer (some ⟨g2, 0, none⟩) := hnew 1 82 (by kernel_rfl)
          have f83 : s 83 = .pointer (some ⟨g2, 2, none⟩) := hnew 2 83 (by kernel_rfl)
          have f84 : s 84 = .slice tU2.rA tU2.rows.length tU2.rc := hnew 3 84 (by kernel_rfl)
          have f85 : s 85 = .slice (some ⟨g0, 0, none⟩) 2 2 := hnew 4 85 (by kernel_rfl)
          have f86 : s 86 = .pointer (some ⟨g0, 0, none⟩) := hnew 5 86 (by kernel_rfl)
          have f87 : s 87 = .pointer (some ⟨g0, 2, none⟩) := hnew 6 87 (by kernel_rfl)
          have f88 : s 88 = .slice tU.rA tU.rows.length tU.rc := hnew 7 88 (by kernel_rfl)
          have f89 : s 89 = .bool true := hnew 8 89 (by kernel_rfl)
          have f90 : s 90 = .bool true := hnew 9 90 (by kernel_rfl)
          have f91 : s 91 = .slice (some ⟨g2, 0, none⟩) 2 cap2_ := hnew 10 91 (by kernel_rfl)
          have f92 : s 92 = .pointer (some ⟨g2, 3, none⟩) := hnew 11 92 (by kernel_rfl)
          have f93 : s 93 = .pointer (some ⟨g2, 5, none⟩) := hnew 12 93 (by kernel_rfl)
          have f94 : s 94 = .slice tT2.rA tT2.rows.length tT2.rc := hnew 13 94 (by kernel_rfl)
          have f95 : s 95 = .slice (some ⟨g0, 0, none⟩) 2 2 := hnew 14 95 (by kernel_rfl)
          have f96 : s 96 = .pointer (some ⟨g0, 3, none⟩) := hnew 15 96 (by kernel_rfl)
          have f97 : s 97 = .pointer (some ⟨g0, 5, none⟩) := hnew 16 97 (by kernel_rfl)
          have f98 : s 98 = .slice tT.rA tT.rows.length tT.rc := hnew 17 98 (by kernel_rfl)
          have f99 : s 99 = .bool true := hnew 18 99 (by kernel_rfl)
          have f100 : s 100 = .bool true := hnew 19 100 (by kernel_rfl)
          have f101 : s 101 = .bool true := hnew 20 101 (by kernel_rfl)
          have f102 : s 102 = .bool true := hnew 21 102 (by kernel_rfl)
          have f103 : s 103 = .bool true := hnew 22 103 (by kernel_rfl)
          change Exit.then _ _ .normal ⟨#[s 0, s 1, s 2, s 3, s 4, s 5, s 6, s 7, s 8, s 9, s 10, s 11, s 12, s 13, s 14, s 15, s 16, s 17, s 18, s 19, s 20, s 21, s 22, s 23, s 24, s 25, s 26, s 27, s 28, s 29, s 30, s 31, s 32, s 33, s 34, s 35, s 36, s 37, s 38, s 39, s 40, s 41, s 42, s 43, s 44, s 45, s 46, s 47, s 48, s 49, s 50, s 51, s 52, s 53, s 54, s 55, s 56, s 57, s 58, s 59, s 60, s 61, s 62, s 63, s 64, s 65, s 66, s 67, s 68, s 69, s 70, s 71, s 72, s 73, s 74, s 75, s 76, s 77, s 78, s 79, s 80, s 81, s 82, s 83, s 84, s 85, s 86, s 87, s 88, s 89, s 90, s 91, s 92, s 93, s 94, s 95, s 96, s 97, s 98, s 99, s 100, s 101, s 102, s 103], _⟩ _
          simp only [f5, f14, f4, f81, f82, f83, f84, f85, f86, f87, f88, f89, f90, f91, f92, f93, f94, f95, f96, f97, f98, f99, f100, f101, f102, f103]
          clear hold hnew
          generalize s 0 = u0
          generalize s 1 = u1
          generalize s 2 = u2
          generalize s 3 = u3
          generalize s 6 = u6
          generalize s 7 = u7
          generalize s 8 = u8
          generalize s 9 = u9
          generalize s 10 = u10
          generalize s 11 = u11
          generalize s 12 = u12
          generalize s 13 = u13
          generalize s 15 = u15
          generalize s 16 = u16
          generalize s 17 = u17
          generalize s 18 = u18
          generalize s 19 = u19
          generalize s 20 = u20
          generalize s 21 = u21
          generalize s 22 = u22
          generalize s 23 = u23
          generalize s 24 = u24
          generalize s 25 = u25
          generalize s 26 = u26
          generalize s 27 = u27
          generalize s 28 = u28
          generalize s 29 = u29
          generalize s 30 = u30
          generalize s 31 = u31
          generalize s 32 = u32
          generalize s 33 = u33
          generalize s 34 = u34
          generalize s 35 = u35
          generalize s 36 = u36
          generalize s 37 = u37
          generalize s 38 = u38
          generalize s 39 = u39
          generalize s 40 = u40
          generalize s 41 = u41
          generalize s 42 = u42
          generalize s 43 = u43
          generalize s 44 = u44
          generalize s 45 = u45
          generalize s 46 = u46
          generalize s 47 = u47
          generalize s 48 = u48
          generalize s 49 = u49
          generalize s 50 = u50
          generalize s 51 = u51
          generalize s 52 = u52
          generalize s 53 = u53
          generalize s 54 = u54
          generalize s 55 = u55
          generalize s 56 = u56
          generalize s 57 = u57
          generalize s 58 = u58
          generalize s 59 = u59
          generalize s 60 = u60
          generalize s 61 = u61
          generalize s 62 = u62
          generalize s 63 = u63
          generalize s 64 = u64
          generalize s 65 = u65
          generalize s 66 = u66
          generalize s 67 = u67
          generalize s 68 = u68
          generalize s 69 = u69
          generalize s 70 = u70
          generalize s 71 = u71
          generalize s 72 = u72
          generalize s 73 = u73
          generalize s 74 = u74
          generalize s 75 = u75
          generalize s 76 = u76
          generalize s 77 = u77
          generalize s 78 = u78
          generalize s 79 = u79
          generalize s 80 = u80
          go_wp2
          (try simp only [Exit.inBlock, Exit.then])
          refine bodyPost_ret (results_tmp rfl _ _ _) rfl ?_
          exact ⟨rfl, E3.out.trans hE⟩
      · have i2 : ¬ (k : Int) < (n2 : Int) := by omega
        clear i3
        by_cases hk0 : k = 0
        · subst hk0
          go_wp2_with (first
            | ((with_reducible refine (HKN.out _).mono ?_); rintro r w3 ⟨rfl, hE⟩))
          (try simp only [Exit.inBlock, Exit.then])
          refine bodyPost_ret (results_tmp rfl _ _ _) rfl ?_
          exact ⟨rfl, EW.out.trans hE⟩
        · have e0 : ¬ ((k : Int) = 0) := by omega
          have HK1 : Hid (0 < k ∧ k ≤ 8) := Lib.hid (by omega)
          go_upto_region 17 with (first
            | ((with_reducible refine (HAA.out HK1.out.1 _ (Ev.refl _)).mono ?_); intro r w2 hap; obtain ⟨hE2, g1, cap1, tU1, tT1, A1, n1, c1_, Z1, dT1, dU1, rfl, hts1, hb1, _⟩ := hap.good (by rw [List.length_map, HLL.out]; exact HK1.out.1) (by rw [List.length_map, HLL.out]; exact HK1.out.2) (fun k_ y_ q_ tU_ tT_ hy_ _ hb_ => adds_taken (by rw [HLL.out]; have := HK1.out.2; have := HM0.out; omega) k_ y_ q_ tU_ tT_ hy_ hb_); have HT1 := Lib.hid (show TsAt w2 (some ⟨g1, 0, none⟩) 2 cap1 [tU1, tT1] from hts1.ts); have HB1 := Lib.hid hb1; have E2 := Lib.hid (EW.out.trans hE2); have F2 := Lib.hid hE2; have HBB := Lib.hid (bt_Apply w2 HT1.out hb1.ut (by rw [List.length_map, HLL.out]; have := HK1.out.2; have := HM0.out; omega) ((HTC.out.u.ev hE2).chs) (fun y hy => by
                obtain ⟨z, hz, rfl⟩ := List.mem_map.1 hy
                exact HLK.out z hz) (by have := HK1.out.2; omega)); clear hts1 hb1 hE2 hap)
            | ((with_reducible refine (HBB.out).mono ?_); intro r w3 hap; obtain ⟨hE3, g2, cap2_, tU2, tT2, A2, n2_, c2_, Z2, dT2, dU2, rfl, hts2, hb2, _⟩ := hap.good (by rw [List.length_map, HLL.out]; exact HK1.out.1) (by rw [List.length_map, HLL.out]; exact HK1.out.2) (fun k_ y_ q_ tU_ tT_ hy_ hq_ hb_ => back_taken HUT.out HB1.out k_ y_ q_ tU_ tT_ hy_ hq_ hb_); have HT2 := Lib.hid (show TsAt w3 (some ⟨g2, 0, none⟩) 2 cap2_ [tU2, tT2] from hts2.ts); have HSU := Lib.hid (show tU2.rows = tU.rows from back_same HUT.out HB1.out hb2 false); have HST := Lib.hid (show tT2.rows = tT.rows from back_same HUT.out HB1.out hb2 true); have E3 := Lib.hid (E2.out.trans hE3); have HT0 := Lib.hid ((HTW.out.ev F2.out).ev hE3); clear hts2 hb2 hE3 hap))
          obtain ⟨a0, la0, a1⟩ := HT2.out.two_cells
          obtain ⟨b0, lb0, b1⟩ := HT0.out.two_cells
          have la1 := la0
          have lb1 := lb0
          have HSA := Lib.hid (fun w4 (hE : Ev w3 w4) => same_rows w4 (HT2.out.each tU2 (by simp)).rows (HT0.out.each tU (by simp)).rows HSU.out hE HUT.out.sU)
          have HSB := Lib.hid (fun w4 (hE : Ev w3 w4) => same_rows w4 (HT2.out.each tT2 (by simp)).rows (HT0.out.each tT (by simp)).rows HST.out hE HUT.out.sT)
          unfold Yes at HSA HSB
          refine wp_region_slots hmix [fun v _ => v = .slice (some ⟨g2, 0, none⟩) 2 cap2_, fun v _ => v = .pointer (some ⟨g2, 0, none⟩), fun v _ => v = .pointer (some ⟨g2, 2, none⟩), fun v _ => v = .slice tU2.rA tU2.rows.length tU2.rc, fun v _ => v = .slice (some ⟨g0, 0, none⟩) 2 2, fun v _ => v = .pointer (some ⟨g0, 0, none⟩), fun v _ => v = .pointer (some ⟨g0, 2, none⟩), fun v _ => v = .slice tU.rA tU.rows.length tU.rc, fun v _ => v = .bool true, fun v _ => v = .bool true, fun v _ => v = .slice (some ⟨g2, 0, none⟩) 2 cap2_, fun v _ => v = .pointer (some ⟨g2, 3, none⟩), fun v _ => v = .pointer (some ⟨g2, 5, none⟩), fun v _ => v = .slice tT2.rA tT2.rows.length tT2.rc, fun v _ => v = .slice (some ⟨g0, 0, none⟩) 2 2, fun v _ => v = .pointer (some ⟨g0, 3, none⟩), fun v _ => v = .pointer (some ⟨g0, 5, none⟩), fun v _ => v = .slice tT.rA tT.rows.length tT.rc, fun v _ => v = .bool true, fun v _ => v = .bool true, fun v _ => v = .bool true, fun v _ => v = .bool true, fun v _ => v = .bool true, fun v _ => v = .bool true]
            104 rfl (by kernel_rfl) ⟨mono_eq _, mono_eq _, mono_eq _, mono_eq _, mono_eq _, mono_eq _, mono_eq _, mono_eq _, mono_eq _, mono_eq _, mono_eq _, mono_eq _, mono_eq _, mono_eq _, mono_eq _, mono_eq _, mono_eq _, mono_eq _, mono_eq _, mono_eq _, mono_eq _, mono_eq _, mono_eq _, mono_eq _, trivial⟩ ?_ ?_
          · refine ops_cons 0 ?_ (ops_cons 1 ?_ (ops_cons 2 ?_ (ops_cons 3 ?_ (ops_cons 4 ?_ (ops_cons 5 ?_ (ops_cons 6 ?_ (ops_cons 7 ?_ (ops_cons 8 ?_ (ops_cons 9 ?_ (ops_cons 10 ?_ (ops_cons 11 ?_ (ops_cons 12 ?_ (ops_cons 13 ?_ (ops_cons 14 ?_ (ops_cons 15 ?_ (ops_cons 16 ?_ (ops_cons 17 ?_ (ops_cons 18 ?_ (ops_cons 19 ?_ (ops_cons 20 ?_ (ops_cons 21 ?_ (ops_cons 22 ?_ (ops_cons 23 ?_ (ops_nil 24))))))))))))))))))))))))
            · refine op_value fun a wq c => ⟨(wanted_plain rfl), _, run_move _ rfl wq, (c.was 14 (by kernel_rfl) rfl)⟩
            · refine op_value fun a wq c => ⟨(wanted_plain rfl), .pointer (some ⟨g2, 0, none⟩), ?_, rfl⟩
              have e81 : a.eval (.tmp 81) = .slice (some ⟨g2, 0, none⟩) 2 cap2_ := (c.new 0 81 (by kernel_rfl) (by kernel_rfl))
              have kc0 : a.eval (.const (.int .i64 0)) = .int .i64 0 := rfl
              generalize a.eval = ρ at e81 kc0 ⊢
              simp [execOp, e81, kc0, go_sem]
            · refine op_value fun a wq c => ⟨(wanted_plain rfl), .pointer (some ⟨g2, 2, none⟩), ?_, rfl⟩
              have e82 : a.eval (.tmp 82) = .pointer (some ⟨g2, 0, none⟩) := (c.new 1 82 (by kernel_rfl) (by kernel_rfl))
              generalize a.eval = ρ at e82 ⊢
              simp [execOp, e82, go_sem]
            · refine op_value fun a wq c => ⟨(wanted_plain rfl), .slice tU2.rA tU2.rows.length tU2.rc, ?_, rfl⟩
              have e83 : a.eval (.tmp 83) = .pointer (some ⟨g2, 2, none⟩) := (c.new 2 83 (by kernel_rfl) (by kernel_rfl))
              have hc := (c.ev.cell (p := ⟨g2, 2, none⟩) la0).trans a0
              generalize a.eval = ρ at e83 ⊢
              simp [execOp, e83, hc, go_sem]
            · refine op_value fun a wq c => ⟨(wanted_plain rfl), _, run_move _ rfl wq, (c.was 5 (by kernel_rfl) rfl)⟩
            · refine op_value fun a wq c => ⟨(wanted_plain rfl), .pointer (some ⟨g0, 0, none⟩), ?_, rfl⟩
              have e85 : a.eval (.tmp 85) = .slice (some ⟨g0, 0, none⟩) 2 2 := (c.new 4 85 (by kernel_rfl) (by kernel_rfl))
              have kc0 : a.eval (.const (.int .i64 0)) = .int .i64 0 := rfl
              generalize a.eval = ρ at e85 kc0 ⊢
              simp [execOp, e85, kc0, go_sem]
            · refine op_value fun a wq c => ⟨(wanted_plain rfl), .pointer (some ⟨g0, 2, none⟩), ?_, rfl⟩
              have e86 : a.eval (.tmp 86) = .pointer (some ⟨g0, 0, none⟩) := (c.new 5 86 (by kernel_rfl) (by kernel_rfl))
              generalize a.eval = ρ at e86 ⊢
              simp [execOp, e86, go_sem]
            · refine op_value fun a wq c => ⟨(wanted_plain rfl), .slice tU.rA tU.rows.length tU.rc, ?_, rfl⟩
              have e87 : a.eval (.tmp 87) = .pointer (some ⟨g0, 2, none⟩) := (c.new 6 87 (by kernel_rfl) (by kernel_rfl))
              have hc := (c.ev.cell (p := ⟨g0, 2, none⟩) lb0).trans b0
              generalize a.eval = ρ at e87 ⊢
              simp [execOp, e87, hc, go_sem]
            · refine op_call fun a wq c => ⟨(wanted_plain rfl), 22, #[.slice tU2.rA tU2.rows.length tU2.rc, .slice tU.rA tU.rows.length tU.rc], ?_, ?_⟩
              · rw [run_call 22 _ _ rfl (by kernel_rfl)]
                have e84 : a.eval (.tmp 84) = .slice tU2.rA tU2.rows.length tU2.rc := (c.new 3 84 (by kernel_rfl) (by kernel_rfl))
                have e88 : a.eval (.tmp 88) = .slice tU.rA tU.rows.length tU.rc := (c.new 7 88 (by kernel_rfl) (by kernel_rfl))
                simp [e84, e88]
              · refine (HSA.out _ c.ev).mono ?_
                rintro e wp ⟨rfl, hE_⟩
                exact ⟨_, rfl, hE_, rfl⟩
            · refine op_value fun a wq c => ⟨(wanted_plain rfl), _, run_move _ rfl wq, (c.new 8 89 (by kernel_rfl) (by kernel_rfl))⟩
            · refine op_value fun a wq c => ⟨(wanted_yes rfl (by kernel_rfl) (c.new 9 90 (by kernel_rfl) (by kernel_rfl))), _, run_move _ rfl wq, (c.was 14 (by kernel_rfl) rfl)⟩
            · refine op_value fun a wq c => ⟨(wanted_yes rfl (by kernel_rfl) (c.new 9 90 (by kernel_rfl) (by kernel_rfl))), .pointer (some ⟨g2, 3, none⟩), ?_, rfl⟩
              have e91 : a.eval (.tmp 91) = .slice (some ⟨g2, 0, none⟩) 2 cap2_ := (c.new 10 91 (by kernel_rfl) (by kernel_rfl))
              have kc0 : a.eval (.const (.int .i64 1)) = .int .i64 1 := rfl
              generalize a.eval = ρ at e91 kc0 ⊢
              simp [execOp, e91, kc0, go_sem]
            · refine op_value fun a wq c => ⟨(wanted_yes rfl (by kernel_rfl) (c.new 9 90 (by kernel_rfl) (by kernel_rfl))), .pointer (some ⟨g2, 5, none⟩), ?_, rfl⟩
              have e92 : a.eval (.tmp 92) = .pointer (some ⟨g2, 3, none⟩) := (c.new 11 92 (by kernel_rfl) (by kernel_rfl))
              generalize a.eval = ρ at e92 ⊢
              simp [execOp, e92, go_sem]
            · refine op_value fun a wq c => ⟨(wanted_yes rfl (by kernel_rfl) (c.new 9 90 (by kernel_rfl) (by kernel_rfl))), .slice tT2.rA tT2.rows.length tT2.rc, ?_, rfl⟩
              have e93 : a.eval (.tmp 93) = .pointer (some ⟨g2, 5, none⟩) := (c.new 12 93 (by kernel_rfl) (by kernel_rfl))
              have hc := (c.ev.cell (p := ⟨g2, 5, none⟩) la1).trans a1
              generalize a.eval = ρ at e93 ⊢
              simp [execOp, e93, hc, go_sem]
            · refine op_value fun a wq c => ⟨(wanted_yes rfl (by kernel_rfl) (c.new 9 90 (by kernel_rfl) (by kernel_rfl))), _, run_move _ rfl wq, (c.was 5 (by kernel_rfl) rfl)⟩
            · refine op_value fun a wq c => ⟨(wanted_yes rfl (by kernel_rfl) (c.new 9 90 (by kernel_rfl) (by kernel_rfl))), .pointer (some ⟨g0, 3, none⟩), ?_, rfl⟩
              have e95 : a.eval (.tmp 95) = .slice (some ⟨g0, 0, none⟩) 2 2 := (c.new 14 95 (by kernel_rfl) (by kernel_rfl))
              have kc0 : a.eval (.const (.int .i64 1)) = .int .i64 1 := rfl
              generalize a.eval = ρ at e95 kc0 ⊢
              simp [execOp, e95, kc0, go_sem]
            · refine op_value fun a wq c => ⟨(wanted_yes rfl (by kernel_rfl) (c.new 9 90 (by kernel_rfl) (by kernel_rfl))), .pointer (some ⟨g0, 5, none⟩), ?_, rfl⟩
              have e96 : a.eval (.tmp 96) = .pointer (some ⟨g0, 3, none⟩) := (c.new 15 96 (by kernel_rfl) (by kernel_rfl))
              generalize a.eval = ρ at e96 ⊢
              simp [execOp, e96, go_sem]
            · refine op_value fun a wq c => ⟨(wanted_yes rfl (by kernel_rfl) (c.new 9 90 (by kernel_rfl) (by kernel_rfl))), .slice tT.rA tT.rows.length tT.rc, ?_, rfl⟩
              have e97 : a.eval (.tmp 97) = .pointer (some ⟨g0, 5, none⟩) := (c.new 16 97 (by kernel_rfl) (by kernel_rfl))
              have hc := (c.ev.cell (p := ⟨g0, 5, none⟩) lb1).trans b1
              generalize a.eval = ρ at e97 ⊢
              simp [execOp, e97, hc, go_sem]
            · refine op_call fun a wq c => ⟨(wanted_yes rfl (by kernel_rfl) (c.new 9 90 (by kernel_rfl) (by kernel_rfl))), 22, #[.slice tT2.rA tT2.rows.length tT2.rc, .slice tT.rA tT.rows.length tT.rc], ?_, ?_⟩
              · rw [run_call 22 _ _ rfl (by kernel_rfl)]
                have e94 : a.eval (.tmp 94) = .slice tT2.rA tT2.rows.length tT2.rc := (c.new 13 94 (by kernel_rfl) (by kernel_rfl))
                have e98 : a.eval (.tmp 98) = .slice tT.rA tT.rows.length tT.rc := (c.new 17 98 (by kernel_rfl) (by kernel_rfl))
                simp [e94, e98]
              · refine (HSB.out _ c.ev).mono ?_
                rintro e wp ⟨rfl, hE_⟩
                exact ⟨_, rfl, hE_, rfl⟩
            · refine op_value fun a wq c => ⟨(wanted_plain rfl), _, run_pick_true rfl (c.new 9 90 (by kernel_rfl) (by kernel_rfl)) wq, (c.new 18 99 (by kernel_rfl) (by kernel_rfl))⟩
            · refine op_value fun a wq c => ⟨(wanted_plain rfl), _, run_move _ rfl wq, (c.new 19 100 (by kernel_rfl) (by kernel_rfl))⟩
            · refine op_call fun a wq c => ⟨(wanted_yes rfl (by kernel_rfl) (c.new 20 101 (by kernel_rfl) (by kernel_rfl))), 17, #[], ?_, ?_⟩
              · rw [run_call 17 _ _ rfl (by kernel_rfl)]
                simp
              · refine (HKN.out _).mono ?_
                rintro e wp ⟨rfl, hE_⟩
                exact ⟨_, rfl, hE_, rfl⟩
            · refine op_value fun a wq c => ⟨(wanted_plain rfl), _, run_pick_true rfl (c.new 20 101 (by kernel_rfl) (by kernel_rfl)) wq, (c.new 21 102 (by kernel_rfl) (by kernel_rfl))⟩
            · refine op_value fun a wq c => ⟨(wanted_plain rfl), _, run_assign _ rfl wq, (c.new 22 103 (by kernel_rfl) (by kernel_rfl))⟩
          intro s w4 hE hold hnew
          have f5 : s 5 = .slice (some ⟨g0, 0, none⟩) 2 2 := hold 5 (by kernel_rfl)
          have f14 : s 14 = .slice (some ⟨g2, 0, none⟩) 2 cap2_ := hold 14 (by kernel_rfl)
          have f4 : s 4 = .bool true := hnew 23 4 (by kernel_rfl)
          have f81 : s 81 = .slice (some ⟨g2, 0, none⟩) 2 cap2_ := hnew 0 81 (by kernel_rfl)
          have f82 : s 82 = .pointer (some ⟨g2, 0, none⟩) := hnew 1 82 (by kernel_rfl)
          have f83 : s 83 = .pointer (some ⟨g2, 2, none⟩) := hnew 2 83 (by kernel_rfl)
          have f84 : s 84 = .slice tU2.rA tU2.rows.length tU2.rc := hnew 3 84 (by kernel_rfl)
          have f85 : s 85 = .slice (some ⟨g0, 0, none⟩) 2 2 := hnew 4 85 (by kernel_rfl)
          have f86 : s 86 = .pointer (some ⟨g0, 0, none⟩) := hnew 5 86 (by kernel_rfl)
          have f87 : s 87 = .pointer (some ⟨g0, 2, none⟩) := hnew 6 87 (by kernel_rfl)
          have f88 : s 88 = .slice tU.rA tU.rows.length tU.rc := hnew 7 88 (by kernel_rfl)
          have f89 : s 89 = .bool true := hnew 8 89 (by kernel_rfl)
          have f90 : s 90 = .bool true := hnew 9 90 (by kernel_rfl)
          have f91 : s 91 = .slice (some ⟨g2, 0, none⟩) 2 cap2_ := hnew 10 91 (by kernel_rfl)
          have f92 : s 92 = .pointer (some ⟨g2, 3, none⟩) := hnew 11 92 (by kernel_rfl)
          have f93 : s 93 = .pointer (some ⟨g2, 5, none⟩) := hnew 12 93 (by kernel_rfl)
          have f94 : s 94 = .slice tT2.rA tT2.rows.length tT2.rc := hnew 13 94 (by kernel_rfl)
          have f95 : s 95 = .slice (some ⟨g0, 0, none⟩) 2 2 := hnew 14 95 (by kernel_rfl)
          have f96 : s 96 = .pointer (some ⟨g0, 3, none⟩) := hnew 15 96 (by kernel_rfl)
          have f97 : s 97 = .pointer (some ⟨g0, 5, none⟩) := hnew 16 97 (by kernel_rfl)
          have f98 : s 98 = .slice tT.rA tT.rows.length tT.rc := hnew 17 98 (by kernel_rfl)
          have f99 : s 99 = .bool true := hnew 18 99 (by kernel_rfl)
          have f100 : s 100 = .bool true := hnew 19 100 (by kernel_rfl)
          have f101 : s 101 = .bool true := hnew 20 101 (by kernel_rfl)
          have f102 : s 102 = .bool true := hnew 21 102 (by kernel_rfl)
          have f103 : s 103 = .bool true := hnew 22 103 (by kernel_rfl)
          change Exit.then _ _ .normal ⟨#[s 0, s 1, s 2, s 3, s 4, s 5, s 6, s 7, s 8, s 9, s 10, s 11, s 12, s 13, s 14, s 15, s 16, s 17, s 18, s 19, s 20, s 21, s 22, s 23, s 24, s 25, s 26, s 27, s 28, s 29, s 30, s 31, s 32, s 33, s 34, s 35, s 36, s 37, s 38, s 39, s 40, s 41, s 42, s 43, s 44, s 45, s 46, s 47, s 48, s 49, s 50, s 51, s 52, s 53, s 54, s 55, s 56, s 57, s 58, s 59, s 60, s 61, s 62, s 63, s 64, s 65, s 66, s 67, s 68, s 69, s 70, s 71, s 72, s 73, s 74, s 75, s 76, s 77, s 78, s 79, s 80, s 81, s 82, s 83, s 84, s 85, s 86, s 87, s 88, s 89, s 90, s 91, s 92, s 93, s 94, s 95, s 96, s 97, s 98, s 99, s 100, s 101, s 102, s 103], _⟩ _
          simp only [f5, f14, f4, f81, f82, f83, f84, f85, f86, f87, f88, f89, f90, f91, f92, f93, f94, f95, f96, f97, f98, f99, f100, f101, f102, f103]
          clear hold hnew
          generalize s 0 = u0
          generalize s 1 = u1
          generalize s 2 = u2
          generalize s 3 = u3
          generalize s 6 = u6
          generalize s 7 = u7
          generalize s 8 = u8
          generalize s 9 = u9
          generalize s 10 = u10
          generalize s 11 = u11
          generalize s 12 = u12
          generalize s 13 = u13
          generalize s 15 = u15
          generalize s 16 = u16
          generalize s 17 = u17
          generalize s 18 = u18
          generalize s 19 = u19
          generalize s 20 = u20
          generalize s 21 = u21
          generalize s 22 = u22
          generalize s 23 = u23
          generalize s 24 = u24
          generalize s 25 = u25
          generalize s 26 = u26
          generalize s 27 = u27
          generalize s 28 = u28
          generalize s 29 = u29
          generalize s 30 = u30
          generalize s 31 = u31
          generalize s 32 = u32
          generalize s 33 = u33
          generalize s 34 = u34
          generalize s 35 = u35
          generalize s 36 = u36
          generalize s 37 = u37
          generalize s 38 = u38
          generalize s 39 = u39
          generalize s 40 = u40
          generalize s 41 = u41
          generalize s 42 = u42
          generalize s 43 = u43
          generalize s 44 = u44
          generalize s 45 = u45
          generalize s 46 = u46
          generalize s 47 = u47
          generalize s 48 = u48
          generalize s 49 = u49
          generalize s 50 = u50
          generalize s 51 = u51
          generalize s 52 = u52
          generalize s 53 = u53
          generalize s 54 = u54
          generalize s 55 = u55
          generalize s 56 = u56
          generalize s 57 = u57
          generalize s 58 = u58
          generalize s 59 = u59
          generalize s 60 = u60
          generalize s 61 = u61
          generalize s 62 = u62
          generalize s 63 = u63
          generalize s 64 = u64
          generalize s 65 = u65
          generalize s 66 = u66
          generalize s 67 = u67
          generalize s 68 = u68
          generalize s 69 = u69
          generalize s 70 = u70
          generalize s 71 = u71
          generalize s 72 = u72
          generalize s 73 = u73
          generalize s 74 = u74
          generalize s 75 = u75
          generalize s 76 = u76
          generalize s 77 = u77
          generalize s 78 = u78
          generalize s 79 = u79
          generalize s 80 = u80
          go_wp2
          (try simp only [Exit.inBlock, Exit.then])
          refine bodyPost_ret (results_tmp rfl _ _ _) rfl ?_
          exact ⟨rfl, E3.out.trans hE⟩
end Go.Proofs.YthpiobkghfdkkaaGreat

namespace Go.Proofs.YthpiobkghfdkkaaGreat
open Go.ChangeShapes Go.WideShapes Go.ChangeAt Go.RowKit
set_option linter.unusedVariables false

theorem Tryz.cellsChg : Tryz.prog.cellsOf 25 = 3 := by kernel_rfl
theorem Tryz.underlying30 : Tryz.prog.underlying 30 = some (.slice 25) := by kernel_rfl
theorem Tryz.params6 : Tryz.f6.params = #[30, 30] := by kernel_rfl
theorem Tryz.cellsBoolC : Tryz.prog.cellsOf 4 = 1 := by kernel_rfl
theorem Tryz.underlyingBoolC : Tryz.prog.underlying 4 = some .bool := by kernel_rfl
section
variable {H : Type} {enc : TypeId × Value → H} {w : World} {base : Nat} {sp : Nat → Bool} {held : Bool}
set_option maxRecDepth 100000 in
theorem elem_chg {n : Nat} {cs : List Value} {x : DataW H × List MemPlace} (h : DataW.trod enc Tryz.prog w base sp held n 25 cs = some x) :
    ∃ y : CM × DataW H, cs = chc y.1 ∧ x.1 = y.2 ∧ Vs w y.1.A y.1.row.length y.1.cap y.1.row := by
  obtain ⟨xs, n', _, hx, hl, hlen, hg⟩ := DataW.trod_struct Tryz.underlying25 h
  rw [Tryz.cellsChg] at hl
  match cs, hl with
  | [c0, c1, c2], _ =>
    match xs, hlen with
    | [y0, y1, y2], _ =>
      have h0 : DataW.trod enc Tryz.prog w base sp held n' 9 (([c0, c1, c2].drop 0).take (Tryz.prog.cellsOf 9)) = some y0 := hg 0 _ rfl
      have h1 : DataW.trod enc Tryz.prog w base sp held n' 23 (([c0, c1, c2].drop 1).take (Tryz.prog.cellsOf 23)) = some y1 := hg 1 _ rfl
      have h2 : DataW.trod enc Tryz.prog w base sp held n' 4 (([c0, c1, c2].drop 2).take (Tryz.prog.cellsOf 4)) = some y2 := hg 2 _ rfl
      rw [Tryz.cellsStr] at h0
      rw [Tryz.cellsRow] at h1
      rw [Tryz.cellsBoolC] at h2
      obtain ⟨s, e0, _, _⟩ := DataW.trod_string Tryz.underlying9 h0
      obtain ⟨y, e1, _, hv, _⟩ := elem_row h1
      obtain ⟨b, e2, _⟩ := DataW.trod_bool Tryz.underlyingBoolC h2
      simp at e0 e1 e2
      subst e0; subst e1; subst e2
      exact ⟨(⟨s.data.toList, y.1.A, y.1.cap, y.1.l, b⟩, x.1), rfl, rfl, hv⟩
theorem open_chs {fuel : Nat} {A : Option Addr} {n cap : Nat} {x : DataW H × List MemPlace} (h : DataW.trod enc Tryz.prog w base sp held fuel 30 [.slice A n cap] = some x) :
    ∃ L : List CM, ChsIn w A n cap L := by
  obtain ⟨l, h1, h2, _⟩ := open_sl (α := CM × DataW H) (enc_ := fun y => chc y.1) Prod.snd (fun y => Vs w y.1.A y.1.row.length y.1.cap y.1.row) (show Tryz.prog.underlying 30 = some (.slice 25) by kernel_rfl) Tryz.cellsChg (fun _ => rfl) (by decide) (fun n cs x hx => elem_chg hx) h
  exact ⟨l.map Prod.fst, sl_fst h1, fun x hx => by
    obtain ⟨y, hy, rfl⟩ := List.mem_map.1 hx
    exact h2 y hy⟩
end
end Go.Proofs.YthpiobkghfdkkaaGreat
