/-
  Texts that belong together: Lists of rows that came in.
-/
import Derived.Test.YthpiobkghfdkkaaGreatZ10O
import Derived.Test.YthpiobkghfdkkaaGreatZ34O
namespace Go.Proofs.YthpiobkghfdkkaaGreat
open Go.ChangeShapes Go.WideShapes Go.ChangeAt Go.RowKit
set_option linter.unusedVariables false

theorem Tryz.cellsRow : Tryz.prog.cellsOf 23 = 1 := by kernel_rfl
section
variable {H : Type} {enc : TypeId × Value → H} {w : World} {base : Nat} {sp : Nat → Bool} {held : Bool}
theorem elem_row {n : Nat} {cs : List Value} {x : DataW H × List MemPlace} (h : DataW.trod enc Tryz.prog w base sp held n 23 cs = some x) :
    ∃ y : Sle V × DataW H, cs = [y.1.v] ∧ x.1 = y.2 ∧ (Vs w y.1.A y.1.l.length y.1.cap y.1.l ∧ okN y.1.l) := by
  rcases Deep.open_slice Tryz.underlying23 h with ⟨hcs, hx⟩ | ⟨a, len, c, m, f, D, Pl, hcs, _⟩
  · exact ⟨(⟨none, 0, []⟩, x.1), hcs, rfl, Sl.nil_ w, fun _ h => by cases h⟩
  · subst hcs
    obtain ⟨l, h1, h2, _⟩ := open_vs h
    have h3 := h1.len
    subst h3
    exact ⟨(⟨some a, c, l⟩, x.1), rfl, rfl, h1, h2⟩
theorem sl_fst {α β : Type} {k : Nat} {enc_ : α → List Value} {w : World} {A : Option Addr} {n cap : Nat} {l : List (α × β)} (h : Sl k (fun y => enc_ y.1) w A n cap l) : Sl k enc_ w A n cap (l.map Prod.fst) :=
  ⟨by rw [List.length_map]; exact h.len, h.le, h.max, h.nil, fun h0 => by
    obtain ⟨b, off, e, hb, hc⟩ := h.rd h0
    refine ⟨b, off, e, hb, fun i x hx j u hu => ?_⟩
    rw [List.getElem?_map] at hx
    obtain ⟨y, hy, rfl⟩ := Option.map_eq_some_iff.1 hx
    exact hc i y hy j u hu⟩
end
end Go.Proofs.YthpiobkghfdkkaaGreat
