/-
  Texts that belong together: Package eval: isLess, isMore, number, first. Package eval: sum. Package eval: isWrong, Right, named: of tables that are right.
-/
import Derived.StillTailTactics
import Derived.Test.YthpiobkghfdkkaaGreatZ40O
import Derived.Test.YthpiobkghfdkkaaGreatZ24O
import Derived.Test.YthpiobkghfdkkaaGreatZ34O
import Derived.Test.YthpiobkghfdkkaaGreatZ22O
import Derived.Test.YthpiobkghfdkkaaGreatZ12O
namespace Go.Proofs.YthpiobkghfdkkaaGreat
open Go.RowKit
set_option linter.unusedVariables false

theorem SetIn.at {l : List I} {w : World} {A : Option Addr} {n cap : Nat} (h : SetIn l w A n cap) {k : Nat} (hk : k < n) : ∃ b off z, A = some ⟨b, off, none⟩ ∧ b < w.heap.size ∧ l[k]? = some z.2 ∧ w.cell? ⟨b, off + k * 2, none⟩ = some (jrow z) ∧ w.cell? ⟨b, off + k * 2 + 1, none⟩ = some (jtal z) ∧ Vs w z.1.1 z.1.2.1 z.1.2.2 z.2.1 := by
  obtain ⟨Z, hZ, rfl⟩ := h
  obtain ⟨b, off, z, e, hb, _, hz, c0, c1, hv⟩ := hZ.at hk
  exact ⟨b, off, z, e, hb, by unfold itemsOf; rw [List.getElem?_map, hz]; rfl, c0, c1, hv⟩
theorem SetIn.le {l : List I} {w : World} {A : Option Addr} {n cap : Nat} (h : SetIn l w A n cap) : n ≤ cap ∧ cap ≤ 9223372036854775807 := by
  obtain ⟨Z, hZ, rfl⟩ := h
  exact ⟨hZ.le, hZ.max⟩
theorem bx_it (w : World) (z : J) : ∃ w0, w.alloc (.cells #[.slice z.1.1 z.1.2.1 z.1.2.2, .complex .f64 (fl z.2.2.1) (fl z.2.2.2)] 62) = w0 ∧ Ev w w0 ∧ Bx 62 w.heap.size #[.slice z.1.1 z.1.2.1 z.1.2.2, .complex .f64 (fl z.2.2.1) (fl z.2.2.2)] w0 ∧ w0.heap.size = w.heap.size + 1 := ⟨_, rfl, Ev.alloc _ _, Bx.new _ _ _, by simp⟩
end Go.Proofs.YthpiobkghfdkkaaGreat

namespace Go.Proofs.YthpiobkghfdkkaaGreat
open Go.RowKit
set_option linter.unusedVariables false

end Go.Proofs.YthpiobkghfdkkaaGreat

namespace Go.Proofs.YthpiobkghfdkkaaGreat
open Go.RowKit
set_option linter.unusedVariables false

/-- A table whose rows are a multiset that fits. -/
structure TFit (t : TM) : Prop where
  parts : PartsI t.rows
  fits : ∀ x ∈ t.rows, fitsL t.cols x.1 = true
  plain : plainS t.rows = true

set_option maxRecDepth 100000 in
set_option maxHeartbeats 8000000 in
theorem ev_isWrong (t : TM) (w : World) (h : TmAt w t) (hf : TFit t) :
    Calls Tryz.prog 91 #[.agg #[.string ⟨t.name.toArray⟩, .slice t.cA t.cols.length t.cc, .slice t.rA t.rows.length t.rc]] w fun e w' => e = .returned (.bool false) ∧ Ev w w' := by
  have hst := store_complex
  obtain ⟨w0, hw0, hE0, hB, hs0⟩ := bx_tab w t
  have HF := Lib.hid hf.fits
  have HPL := Lib.hid (fun w1 (hE : Ev w w1) => plain_in w1 (h.rows.ev hE) hf.parts)
  rw [hf.plain] at HPL
  obtain ⟨hn1, hn2⟩ := h.rows.le
  have HR := Lib.hid h.rows
  have HC := Lib.hid h.cols
  have HB := Lib.hid hB
  have HE0 := Lib.hid hE0
  obtain ⟨⟨t0, t1, t2⟩, _⟩ := hB.three
  generalize hrn : t.rows.length = n at *
  generalize t.rA = rA at *
  generalize t.rc = rc at *
  clear h hf hB hE0 hrn
  go_enter Tryz.func91, Tryz.ntmps91
  go_wp2
  go_loopw [8] (fun iv wr => ∃ k : Nat, iv = .int .i64 (k : Int) ∧ k ≤ n ∧ Hid (Ev w0 wr)) (fun iv _ => n - (intOf iv).toNat)
  case atStart => exact ⟨0, rfl, Nat.zero_le _, Lib.hid (Ev.refl _)⟩
  case round =>
    obtain ⟨k, rfl, hk, HE⟩ := hrel
    obtain ⟨⟨t0, t1, t2⟩, _⟩ := (HB.out.ev HE.out).three
    by_cases hlt : k < n
    · obtain ⟨b, off, z, rfl, hb, hx, c0, c1, hv⟩ := (HR.out.ev (HE0.out.trans HE.out)).at hlt
      unfold jrow at c0
      unfold jtal at c1
      obtain ⟨wx, hwx, hEx, hX, hsx⟩ := bx_it wr z
      obtain ⟨⟨x0, x1⟩, _⟩ := hX.two
      have k1 := (hEx.cell (p := ⟨w.heap.size, 1, none⟩) (HB.out.ev HE.out).lt).trans t1
      have HFX := Lib.hid (row_fits wx (HC.out.ev ((HE0.out.trans HE.out).trans hEx)) (hv.ev hEx))
      rw [HF.out _ (List.mem_of_getElem? hx)] at HFX
      have HEX := Lib.hid hEx
      have i1 : (0 : Int) ≤ (k : Int) := by omega
      have i2 : (k : Int) < (n : Int) := by omega
      clear hx hv hX hEx
      go_wp2_with (first
        | ((with_reducible refine (HFX.out).mono ?_); rintro r w1 ⟨rfl, hE1⟩))
      go_roundw
      case rel => exact ⟨k + 1, by go_num, by omega, Lib.hid ((HE.out.trans HEX.out).trans hE1)⟩
      case measure => simp [intOf]; omega
    · obtain rfl : k = n := by omega
      have HP1 := Lib.hid (HPL.out wr (HE0.out.trans HE.out))
      go_wp2_with (first
        | ((with_reducible refine (HP1.out).mono ?_); rintro r w1 ⟨rfl, hE1⟩))
      go_ret
      exact ⟨rfl, (HE0.out.trans HE.out).trans hE1⟩

set_option maxRecDepth 100000 in
set_option maxHeartbeats 8000000 in
theorem ev_noneWrong {A : Option Addr} {n cap : Nat} {l : List TM} (w : World) (h : TsAt w A n cap l) (hf : ∀ t ∈ l, TFit t) :
    Calls Tryz.prog 60 #[.slice A n cap, .func (.func 91) #[] #[]] w fun e w' => e = .returned (.int .i64 (-1)) ∧ Ev w w' := by
  have hn := h.sl.le
  have hm := h.sl.max
  have HN := Lib.hid h.sl.len
  have H := Lib.hid h
  have HC := Lib.hid (fun (t : TM) (ht : t ∈ l) w1 (hE : Ev w w1) => ev_isWrong t w1 ((h.each t ht).ev hE) (hf t ht))
  clear h hf
  go_enter Tryz.func60, Tryz.ntmps60
  go_wp2
  go_loopw [8] (fun iv wr => ∃ k : Nat, iv = .int .i64 (k : Int) ∧ k ≤ n ∧ Hid (Ev w wr)) (fun iv _ => n - (intOf iv).toNat)
  case atStart => exact ⟨0, rfl, Nat.zero_le _, Lib.hid (Ev.refl _)⟩
  case round =>
    obtain ⟨k, rfl, hk, HE⟩ := hrel
    by_cases hlk : k < n
    · obtain ⟨t, ht⟩ := H.out.sl.at hlk
      obtain ⟨b, off, rfl, hb, c0, c1, c2⟩ := (H.out.ev HE.out).cell ht
      have HCd := Lib.hid (HC.out t (List.mem_of_getElem? ht))
      have i1 : (0 : Int) ≤ (k : Int) := by omega
      have i2 : (k : Int) < (n : Int) := by omega
      clear ht
      go_wp2_with (first
        | ((with_reducible refine (HCd.out _ HE.out).mono ?_); rintro e w1 ⟨rfl, hE1⟩; have E1 := Lib.hid (HE.out.trans hE1); clear hE1))
      go_roundw
      case rel => exact ⟨k + 1, by go_num, by omega, E1⟩
      case measure => simp [intOf]; omega
    · obtain rfl : k = n := by omega
      go_wp2
      go_ret
      exact ⟨rfl, HE.out⟩

set_option maxRecDepth 100000 in
set_option maxHeartbeats 8000000 in
theorem ev_containsNone {A : Option Addr} {n cap : Nat} {l : List TM} (w : World) (h : TsAt w A n cap l) (hf : ∀ t ∈ l, TFit t) :
    Calls Tryz.prog 90 #[.slice A n cap, .func (.func 91) #[] #[]] w fun e w' => e = .returned (.bool false) ∧ Ev w w' := by
  have HC := Lib.hid (ev_noneWrong w h hf)
  clear h hf
  go_enter Tryz.func90, Tryz.ntmps90
  go_wp2_with (first
    | ((with_reducible refine (HC.out).mono ?_); rintro e w1 ⟨rfl, hE1⟩))
  go_ret
  exact ⟨rfl, hE1⟩
/-- Definitions that check.Defs finds in order, wherever they lie. -/
def DefsOk (L : List Df) : Prop := ∀ (D : List DM) (A : Option Addr) (n cap : Nat) (w : World), DsAt w A n cap D → D.map DM.df = L → (∀ ad, A = some ad → ad = ⟨ad.block, 0, none⟩) →
    Calls Tryz.prog 88 #[.slice A n cap] w fun e w' => e = .returned (.int .i64 0) ∧ Ev w w'

end Go.Proofs.YthpiobkghfdkkaaGreat
