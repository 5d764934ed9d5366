/-
  Texts that belong together: Arguments that are rows of Values and lists of columns, opened: what they hold; what a bound on their bulk gives.
-/
import Derived.Test.YthpiobkghfdkkaaGreatRows
import Derived.Deep.Slices
import Derived.ProofKit
import Derived.OpenShut
import Derived.Test.YthpiobkghfdkkaaGreatZ8O
namespace Go.Proofs.YthpiobkghfdkkaaGreat
open Go.RowKit Go.WideShapes Go.ChangeShapes
set_option linter.unusedVariables false
set_option maxRecDepth 100000

theorem list_of {α : Type} {P : Nat → α → Prop} : ∀ (n : Nat), (∀ i, i < n → ∃ x, P i x) → ∃ l : List α, l.length = n ∧ ∀ i x, l[i]? = some x → P i x
  | 0, _ => ⟨[], rfl, fun i x h => by simp at h⟩
  | n + 1, h => by
    obtain ⟨l, hl, hP⟩ := list_of n (fun i hi => h i (by omega))
    obtain ⟨x, hx⟩ := h n (by omega)
    refine ⟨l ++ [x], by simp [hl], fun i y hy => ?_⟩
    by_cases hi : i < n
    · rw [List.getElem?_append_left (by omega)] at hy
      exact hP i y hy
    · have hlt := (List.getElem?_eq_some_iff.1 hy).1
      rw [List.length_append, hl, List.length_cons, List.length_nil] at hlt
      obtain rfl : i = n := by omega
      rw [List.getElem?_append_right (by omega), hl, Nat.sub_self] at hy
      simp at hy
      exact hy ▸ hx

/-- What a Value, a column reads as. -/
def vdat {H : Type} (x : V) : DataW H := .agg [.lit (.int .i64 x.1), .lit (.int .i64 x.2.1), .lit (.string x.2.2.data.toList)]
theorem Tryz.cellsVal : Tryz.prog.cellsOf 32 = 3 := by kernel_rfl
theorem Tryz.cellsInt : Tryz.prog.cellsOf 3 = 1 := by kernel_rfl
theorem Tryz.cellsI64 : Tryz.prog.cellsOf 2 = 1 := by kernel_rfl
theorem Tryz.cellsStr : Tryz.prog.cellsOf 9 = 1 := by kernel_rfl

section
variable {H : Type} {enc : TypeId × Value → H} {w : World} {base : Nat} {sp : Nat → Bool} {held : Bool}
theorem elem_val {n : Nat} {cs : List Value} {x : DataW H × List MemPlace} (h : DataW.trod enc Tryz.prog w base sp held n 32 cs = some x) :
    ∃ y : V, cs = vcells y ∧ x.1 = vdat y ∧ (Lit.int .i64 y.2.1).wf = true ∧ y.2.2.size ≤ maxLen := by
  obtain ⟨xs, n', _, hx, hl, hlen, hg⟩ := DataW.trod_struct Tryz.underlying32 h
  rw [Tryz.cellsVal] at hl
  match cs, hl with
  | [c0, c1, c2], _ =>
    match xs, hlen with
    | [y0, y1, y2], _ =>
      have h0 : DataW.trod enc Tryz.prog w base sp held n' 3 (([c0, c1, c2].drop 0).take (Tryz.prog.cellsOf 3)) = some y0 := hg 0 _ rfl
      have h1 : DataW.trod enc Tryz.prog w base sp held n' 2 (([c0, c1, c2].drop 1).take (Tryz.prog.cellsOf 2)) = some y1 := hg 1 _ rfl
      have h2 : DataW.trod enc Tryz.prog w base sp held n' 9 (([c0, c1, c2].drop 2).take (Tryz.prog.cellsOf 9)) = some y2 := hg 2 _ rfl
      rw [Tryz.cellsInt] at h0
      rw [Tryz.cellsI64] at h1
      rw [Tryz.cellsStr] at h2
      obtain ⟨k, e0, rfl, _⟩ := DataW.trod_int Tryz.underlying3 h0
      obtain ⟨m, e1, rfl, wm⟩ := DataW.trod_int Tryz.underlying2 h1
      obtain ⟨s, e2, rfl, ws⟩ := DataW.trod_string Tryz.underlying9 h2
      simp at e0 e1 e2
      subst e0; subst e1; subst e2
      exact ⟨(k, m, s), rfl, by rw [hx]; rfl, wm, ws⟩
/-- A slice of structs that came in. -/
theorem open_sl {α : Type} {k : Nat} {enc_ : α → List Value} {t e : TypeId} (dat : α → DataW H) (R : α → Prop) (ht : Tryz.prog.underlying t = some (.slice e)) (hk : Tryz.prog.cellsOf e = k) (hk0 : ∀ y, (enc_ y).length = k) (hk1 : 0 < k)
    (helem : ∀ (n : Nat) (cs : List Value) (x : DataW H × List MemPlace), DataW.trod enc Tryz.prog w base sp held n e cs = some x → ∃ y : α, cs = enc_ y ∧ x.1 = dat y ∧ R y)
    {fuel : Nat} {A : Option Addr} {n cap : Nat} {x : DataW H × List MemPlace} (h : DataW.trod enc Tryz.prog w base sp held fuel t [.slice A n cap] = some x) :
    ∃ l : List α, Sl k enc_ w A n cap l ∧ (∀ y ∈ l, R y) ∧ (x.1 = .nil ∧ l = [] ∨ ∃ rest, x.1 = .slice (l.map dat) rest) := by
  rcases Deep.open_slice ht h with ⟨hcs, hx⟩ | ⟨a, len, c, m, f, D, Pl, hcs, _, hl, hm, hmm, hx, hi⟩
  · simp at hcs
    obtain ⟨rfl, rfl, rfl⟩ := hcs
    exact ⟨[], Sl.nil_ w, fun x hx => by simp at hx, .inl ⟨by rw [hx], rfl⟩⟩
  · simp at hcs
    obtain ⟨rfl, rfl, rfl⟩ := hcs
    have hnm : n ≤ m := by rw [hmm]; split <;> omega
    have key : ∃ l : List α, l.length = n ∧ ∀ i y, l[i]? = some y → (D i = dat y ∧ R y) ∧ ∀ j u, (enc_ y)[j]? = some u → w.cell? (a.add (i * k + j)) = some u := by
      refine list_of n fun i hin => ?_
      obtain ⟨cs', hc, ht'⟩ := hi i (by omega)
      rw [hk] at hc
      obtain ⟨y, rfl, hy, hR⟩ := helem _ _ _ ht'
      obtain ⟨_, _, hat⟩ := World.cells?_some hc
      refine ⟨y, ⟨hy, hR⟩, fun j u hu => ?_⟩
      have hj : j < k := by rw [← hk0 y]; exact (List.getElem?_eq_some_iff.1 hu).1
      rw [← Go.Deep.add_add, hat j hj, hu]
    obtain ⟨l, hll, hP⟩ := key
    have hmap : (List.range n).map D = l.map dat := by
      apply List.ext_getElem?
      intro i
      by_cases hin : i < n
      · have hin2 : i < l.length := by omega
        have h1 := ((hP i _ (List.getElem?_eq_getElem hin2)).1).1
        rw [List.getElem?_map, List.getElem?_map, List.getElem?_eq_getElem hin2, List.getElem?_range hin]
        simp [h1]
      · rw [List.getElem?_eq_none (by simp; omega), List.getElem?_eq_none (by simp; omega)]
    refine ⟨l, ⟨hll, hl, by simpa [maxLen] using hm, by simp, fun h0 => ?_⟩, fun x hx => ?_, .inr ⟨_, by rw [hx, hmap]⟩⟩
    · have hn0 : 0 < l.length := by omega
      have hy := List.getElem?_eq_getElem hn0
      have hz0 : 0 < (enc_ l[0]).length := by rw [hk0]; exact hk1
      have hc := (hP 0 _ hy).2 0 _ (List.getElem?_eq_getElem hz0)
      obtain ⟨b, off, spot⟩ := a
      have hspot : spot = none := by simpa [Addr.add] using World.cell?_spot hc
      subst hspot
      have hb : b < w.heap.size := by
        have := World.block_lt_of_cell? w _ hc
        simpa [Addr.add] using this
      refine ⟨b, off, rfl, hb, fun i y hy j u hu => ?_⟩
      have := (hP i y hy).2 j u hu
      rw [Addr.add_lit] at this
      rw [Nat.add_assoc]
      exact this
    · obtain ⟨i, hi2, rfl⟩ := List.getElem_of_mem hx
      exact ((hP i _ (List.getElem?_eq_getElem hi2)).1).2

/-- A row, a list of columns that came in. -/
theorem open_vs {fuel : Nat} {A : Option Addr} {n cap : Nat} {x : DataW H × List MemPlace} (h : DataW.trod enc Tryz.prog w base sp held fuel 23 [.slice A n cap] = some x) :
    ∃ l : List V, Vs w A n cap l ∧ okN l ∧ (x.1 = .nil ∧ l = [] ∨ ∃ rest, x.1 = .slice (l.map vdat) rest) := by
  obtain ⟨l, h1, h2, h3⟩ := open_sl (α := V) (enc_ := vcells) vdat (fun y => (Lit.int .i64 y.2.1).wf = true ∧ y.2.2.size ≤ maxLen) Tryz.underlying23 Tryz.cellsVal (fun _ => rfl) (by decide) (fun n cs x hx => elem_val hx) h
  refine ⟨l, h1, fun y hy => ?_, h3⟩
  have := (h2 y hy).1
  simp [Lit.wf, IntKind.min, IntKind.max, IntKind.signed, IntKind.bits] at this
  omega
end

end Go.Proofs.YthpiobkghfdkkaaGreat
