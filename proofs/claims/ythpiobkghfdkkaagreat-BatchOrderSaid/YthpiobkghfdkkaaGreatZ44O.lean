/-
  Texts that belong together: zset.Same of the same set; the book's One; sets of the law's own.
-/
import Derived.Test.YthpiobkghfdkkaaGreatZ38O
import Derived.Test.YthpiobkghfdkkaaGreatZ36O
import Derived.Test.YthpiobkghfdkkaaGreatZ42O
import Derived.Test.YthpiobkghfdkkaaGreatZ34O
import Derived.Test.YthpiobkghfdkkaaGreatZ35O
import Derived.Test.YthpiobkghfdkkaaGreatZ22O
namespace Go.Proofs.YthpiobkghfdkkaaGreat
open Go.RowKit
set_option linter.unusedVariables false

theorem bx_2t (w : World) (T1 T2 : TypeId) (c1 c2 : Array Value) : ∃ w0, (w.alloc (.cells c1 T1)).alloc (.cells c2 T2) = w0 ∧ Ev w w0 ∧ Bx T1 w.heap.size c1 w0 ∧ Bx T2 (w.heap.size + 1) c2 w0 := by
  have hB := Bx.new T2 c2 (w.alloc (.cells c1 T1))
  rw [show (w.alloc (.cells c1 T1)).heap.size = w.heap.size + 1 by simp] at hB
  exact ⟨_, rfl, (Ev.alloc w _).trans (Ev.alloc _ _), (Bx.new T1 c1 w).ev (Ev.alloc _ _), hB⟩
theorem order_self {p : Int} (h : Part p) : FloatKind.f64.format.order (fl p) (fl p) = some .eq := by
  have h1 := order_same h h
  rw [decide_eq_true (rfl : p = p)] at h1
  exact eq_of_beq h1

set_option maxRecDepth 100000 in
set_option maxHeartbeats 8000000 in
theorem item_same (x y : J) (w : World) (he : x.2 = y.2) (h : Vs w x.1.1 x.1.2.1 x.1.2.2 x.2.1) (h' : Vs w y.1.1 y.1.2.1 y.1.2.2 y.2.1) (hp : Part x.2.2.1) (hq : Part x.2.2.2) (hr : rightR x.2.1 = true) :
    Calls Tryz.prog 40 #[.agg #[.slice x.1.1 x.1.2.1 x.1.2.2, .complex .f64 (fl x.2.2.1) (fl x.2.2.2)], .agg #[.slice y.1.1 y.1.2.1 y.1.2.2, .complex .f64 (fl y.2.2.1) (fl y.2.2.2)]] w (Yes w) := by
  obtain ⟨⟨A1, n1, c1⟩, r, p, q⟩ := x
  obtain ⟨⟨A2, n2, c2⟩, r2, p2, q2⟩ := y
  injection he with e1 e2
  injection e2 with e2 e3
  subst e1; subst e2; subst e3
  simp only at h h' hp hq hr ⊢
  have o1 := order_self hp
  have o2 := order_self hq
  have HS := Lib.hid (fun w1 (hE : Ev w w1) => row_same w1 (h.ev hE) (h'.ev hE))
  have hsr : sameR r r = true := by unfold sameR; rw [hr]; simp [eqL]
  rw [hsr] at HS
  obtain ⟨w0, hw0, hE0, hB, hC⟩ := bx_2t w 62 62 #[.slice A1 n1 c1, .complex .f64 (fl p) (fl q)] #[.slice A2 n2 c2, .complex .f64 (fl p) (fl q)]
  obtain ⟨⟨x0, x1⟩, _⟩ := hB.two
  obtain ⟨⟨y0, y1⟩, _⟩ := hC.two
  have HE0 := Lib.hid hE0
  unfold Yes
  clear hB hC hE0 h h' hp hq hr hsr
  go_enter Tryz.func40, Tryz.ntmps40
  go_wp2_with (first
    | ((with_reducible refine (HS.out _ HE0.out).mono ?_); rintro e w1 ⟨rfl, hE1⟩))
  go_ret
  exact ⟨rfl, HE0.out.trans hE1⟩

set_option maxRecDepth 100000 in
set_option maxHeartbeats 8000000 in
theorem eqf_items {b b' : Nat} (X X' : List J) (A A' : Option Addr) (n cap cap' : Nat) (w : World) (h : Zs b w A n cap X) (h' : Zs b' w A' n cap' X') (he : itemsOf X = itemsOf X') (hp : AllParts X) (hr : ∀ x ∈ X, rightR x.2.1 = true) :
    Calls Tryz.prog 39 #[.slice A n cap, .slice A' n cap', .func (.func 40) #[] #[]] w (Yes w) := by
  have hc1 := h.le
  have hc2 := h.max
  have hc3 := h'.le
  have hc4 := h'.max
  have H := Lib.hid h
  have H' := Lib.hid h'
  have HP := Lib.hid hp
  have HR := Lib.hid hr
  have HEQ := Lib.hid he
  have HE0 := Lib.hid (Ev.refl w)
  have hst := store_complex
  unfold Yes
  clear h h' hp hr he
  go_enter Tryz.func39, Tryz.ntmps39
  go_wp2
  go_loopw [17] (fun iv wr => ∃ k : Nat, iv = .int .i64 (k : Int) ∧ k ≤ n ∧ Hid (Ev w wr)) (fun iv _ => n - (intOf iv).toNat)
  case atStart => exact ⟨0, rfl, Nat.zero_le _, by first | exact HE0 | exact Lib.hid (Ev.alloc _ _) | exact Lib.hid ((Ev.alloc _ _).trans (Ev.alloc _ _))⟩
  case round =>
    obtain ⟨k, rfl, hk, HE⟩ := hrel
    by_cases hlt : k < n
    · obtain ⟨b1, off, x, rfl, hb, _, hx, c0, c1, hv⟩ := (H.out.ev HE.out).at hlt
      obtain ⟨b2, off', y, rfl, hb', _, hy, d0, d1, hv'⟩ := (H'.out.ev HE.out).at hlt
      have hxy : x.2 = y.2 := by
        have h1 : (itemsOf X)[k]? = some x.2 := by unfold itemsOf; rw [List.getElem?_map, hx]; rfl
        have h2 : (itemsOf X')[k]? = some y.2 := by unfold itemsOf; rw [List.getElem?_map, hy]; rfl
        rw [HEQ.out, h2] at h1
        exact (Option.some.inj h1).symm
      have hxm := List.mem_of_getElem? hx
      have HC := Lib.hid (fun w1 (hE : Ev wr w1) => item_same x y w1 hxy (hv.ev hE) (hv'.ev hE) (HP.out x hxm).1 (HP.out x hxm).2 (HR.out x hxm))
      unfold Yes at HC
      unfold jrow at c0 d0
      unfold jtal at c1 d1
      obtain ⟨w4, hw4, hE4, hB4⟩ : ∃ w4, wr.alloc (.cells #[.slice x.1.1 x.1.2.1 x.1.2.2, .complex .f64 (fl x.2.2.1) (fl x.2.2.2)] 62) = w4 ∧ Ev wr w4 ∧ Bx 62 wr.heap.size #[.slice x.1.1 x.1.2.1 x.1.2.2, .complex .f64 (fl x.2.2.1) (fl x.2.2.2)] w4 := ⟨_, rfl, Ev.alloc _ _, Bx.new _ _ _⟩
      have e0 := (hE4.cell (p := ⟨b2, off' + k * 2, none⟩) hb').trans d0
      have e1 := (hE4.cell (p := ⟨b2, off' + k * 2 + 1, none⟩) hb').trans d1
      obtain ⟨w5, hw5, hE5, hB5⟩ : ∃ w5, w4.alloc (.cells #[.slice y.1.1 y.1.2.1 y.1.2.2, .complex .f64 (fl y.2.2.1) (fl y.2.2.2)] 62) = w5 ∧ Ev w4 w5 ∧ Bx 62 w4.heap.size #[.slice y.1.1 y.1.2.1 y.1.2.2, .complex .f64 (fl y.2.2.1) (fl y.2.2.2)] w5 := ⟨_, rfl, Ev.alloc _ _, Bx.new _ _ _⟩
      obtain ⟨⟨f0, f1⟩, _⟩ := (hB4.ev hE5).two
      obtain ⟨⟨g0, g1⟩, _⟩ := hB5.two
      have HE5 := Lib.hid (hE4.trans hE5)
      have i1 : (0 : Int) ≤ (k : Int) := by omega
      have i2 : (k : Int) < (n : Int) := by omega
      clear hx hy d0 d1 hE4 hB4 hE5 hB5 hxy hxm hv hv'
      go_wp2_with (first
        | ((with_reducible refine (HC.out _ HE5.out).mono ?_); rintro e w6 ⟨rfl, hE6⟩))
      go_roundw
      case rel => exact ⟨k + 1, by go_num, by omega, Lib.hid (HE.out.trans (HE5.out.trans hE6))⟩
      case measure => simp [intOf]; omega
    · obtain rfl : k = n := by omega
      go_wp2
      go_ret
      exact ⟨rfl, HE.out⟩

set_option maxRecDepth 100000 in
set_option maxHeartbeats 8000000 in
theorem zset_same {l : List I} {A B : Option Addr} {n cap cap' : Nat} (w : World) (h : SetIn l w A n cap) (h' : SetIn l w B n cap') (hp : PartsI l) (hs : setB l = true) (hr : ∀ x ∈ l, rightR x.1 = true) :
    Calls Tryz.prog 22 #[.slice A n cap, .slice B n cap'] w (Yes w) := by
  have HR := Lib.hid (fun w1 (hE : Ev w w1) => right_in w1 (h.ev hE) hp)
  rw [hs] at HR
  have HF : Hid (∀ w1, Ev w w1 → Calls Tryz.prog 39 #[.slice A n cap, .slice B n cap', .func (.func 40) #[] #[]] w1 (Yes w1)) := Lib.hid (fun w1 hE => by
    obtain ⟨Z, hz, e⟩ := h.ev hE
    obtain ⟨Z', hz', e'⟩ := h'.ev hE
    exact eqf_items Z Z' A B n cap cap' w1 hz hz' (e.trans e'.symm) (PartsI.all (by rw [e]; exact hp)) (fun x hx => hr x.2 (by rw [← e]; exact List.mem_map_of_mem hx)))
  unfold Yes at HF ⊢
  clear h h' hp hs hr
  go_enter Tryz.func22, Tryz.ntmps22
  go_wp2_with (first
    | ((with_reducible refine (HR.out _ (Ev.refl _)).mono ?_); rintro e w1 ⟨rfl, hE1⟩; have E1 := Lib.hid hE1; clear hE1)
    | ((with_reducible refine (HF.out _ E1.out).mono ?_); rintro e w2 ⟨rfl, hE2⟩))
  go_ret
  exact ⟨rfl, E1.out.trans hE2⟩

end Go.Proofs.YthpiobkghfdkkaaGreat
