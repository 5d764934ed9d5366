/-
  Arguments that are rows of Values and lists of columns, opened: what they hold; what a bound on their bulk gives.
-/
import Derived.Test.YtkjodlngpdihhaaRows
import Derived.Test.YtkjodlngpdihhaaVrow
import Derived.Test.YtkjodlngpdihhaaRef5P
import Derived.Deep.Slices
import Derived.ProofKit
import Derived.OpenShut
namespace Go.Proofs.Ytkjodlngpdihhaa
open Go.RowKit Go.WideShapes Go.ChangeShapes
set_option linter.unusedVariables false

theorem list_of {α : Type} {P : Nat → α → Prop} : ∀ (n : Nat), (∀ i, i < n → ∃ x, P i x) → ∃ l : List α, l.length = n ∧ ∀ i x, l[i]? = some x → P i x
  | 0, _ => ⟨[], rfl, fun i x h => by simp at h⟩
  | n + 1, h => by
    obtain ⟨l, hl, hP⟩ := list_of n (fun i hi => h i (by omega))
    obtain ⟨x, hx⟩ := h n (by omega)
    refine ⟨l ++ [x], by simp [hl], fun i y hy => ?_⟩
    by_cases hi : i < n
    · rw [List.getElem?_append_left (by omega)] at hy
      exact hP i y hy
    · have hlt := (List.getElem?_eq_some_iff.1 hy).1
      rw [List.length_append, hl, List.length_cons, List.length_nil] at hlt
      obtain rfl : i = n := by omega
      rw [List.getElem?_append_right (by omega), hl, Nat.sub_self] at hy
      simp at hy
      exact hy ▸ hx

/-- What a Value, a column reads as. -/
def vdat {H : Type} (x : V) : DataW H := .agg [.lit (.int .i64 x.1), .lit (.int .i64 x.2.1), .lit (.string x.2.2.data.toList)]
def cdat {H : Type} (x : C) : DataW H := .agg [.lit (.string x.1.data.toList), .lit (.int .i64 x.2)]
theorem Try.cellsVal : Try.prog.cellsOf 61 = 3 := by kernel_rfl
theorem Try.cellsCol : Try.prog.cellsOf 23 = 2 := by kernel_rfl
theorem Try.cellsInt : Try.prog.cellsOf 3 = 1 := by kernel_rfl
theorem Try.cellsI64 : Try.prog.cellsOf 2 = 1 := by kernel_rfl
theorem Try.cellsStr : Try.prog.cellsOf 9 = 1 := by kernel_rfl

section
variable {H : Type} {enc : TypeId × Value → H} {w : World} {base : Nat} {sp : Nat → Bool} {held : Bool}
theorem elem_val {n : Nat} {cs : List Value} {x : DataW H × List MemPlace} (h : DataW.trod enc Try.prog w base sp held n 61 cs = some x) :
    ∃ y : V, cs = vcells y ∧ x.1 = vdat y ∧ (Lit.int .i64 y.2.1).wf = true ∧ y.2.2.size ≤ maxLen := by
  obtain ⟨xs, n', _, hx, hl, hlen, hg⟩ := DataW.trod_struct Try.underlying61 h
  rw [Try.cellsVal] at hl
  match cs, hl with
  | [c0, c1, c2], _ =>
    match xs, hlen with
    | [y0, y1, y2], _ =>
      have h0 : DataW.trod enc Try.prog w base sp held n' 3 (([c0, c1, c2].drop 0).take (Try.prog.cellsOf 3)) = some y0 := hg 0 _ rfl
      have h1 : DataW.trod enc Try.prog w base sp held n' 2 (([c0, c1, c2].drop 1).take (Try.prog.cellsOf 2)) = some y1 := hg 1 _ rfl
      have h2 : DataW.trod enc Try.prog w base sp held n' 9 (([c0, c1, c2].drop 2).take (Try.prog.cellsOf 9)) = some y2 := hg 2 _ rfl
      rw [Try.cellsInt] at h0
      rw [Try.cellsI64] at h1
      rw [Try.cellsStr] at h2
      obtain ⟨k, e0, rfl, _⟩ := DataW.trod_int Try.underlying3 h0
      obtain ⟨m, e1, rfl, wm⟩ := DataW.trod_int Try.underlying2 h1
      obtain ⟨s, e2, rfl, ws⟩ := DataW.trod_string Try.underlying9 h2
      simp at e0 e1 e2
      subst e0; subst e1; subst e2
      exact ⟨(k, m, s), rfl, by rw [hx]; rfl, wm, ws⟩
theorem elem_col {n : Nat} {cs : List Value} {x : DataW H × List MemPlace} (h : DataW.trod enc Try.prog w base sp held n 23 cs = some x) :
    ∃ y : C, cs = ccells y ∧ x.1 = cdat y ∧ y.1.size ≤ maxLen ∧ (Lit.int .i64 y.2).wf = true := by
  obtain ⟨xs, n', _, hx, hl, hlen, hg⟩ := DataW.trod_struct Try.underlying23 h
  rw [Try.cellsCol] at hl
  match cs, hl with
  | [c0, c1], _ =>
    match xs, hlen with
    | [y0, y1], _ =>
      have h0 : DataW.trod enc Try.prog w base sp held n' 9 (([c0, c1].drop 0).take (Try.prog.cellsOf 9)) = some y0 := hg 0 _ rfl
      have h1 : DataW.trod enc Try.prog w base sp held n' 3 (([c0, c1].drop 1).take (Try.prog.cellsOf 3)) = some y1 := hg 1 _ rfl
      rw [Try.cellsStr] at h0
      rw [Try.cellsInt] at h1
      obtain ⟨s, e0, rfl, ws⟩ := DataW.trod_string Try.underlying9 h0
      obtain ⟨k, e1, rfl, wk⟩ := DataW.trod_int Try.underlying3 h1
      simp at e0 e1
      subst e0; subst e1
      exact ⟨(s, k), rfl, by rw [hx]; rfl, ws, wk⟩

/-- A slice of structs that came in. -/
theorem open_sl {α : Type} {k : Nat} {enc_ : α → List Value} {t e : TypeId} (dat : α → DataW H) (R : α → Prop) (ht : Try.prog.underlying t = some (.slice e)) (hk : Try.prog.cellsOf e = k) (hk0 : ∀ y, (enc_ y).length = k) (hk1 : 0 < k)
    (helem : ∀ (n : Nat) (cs : List Value) (x : DataW H × List MemPlace), DataW.trod enc Try.prog w base sp held n e cs = some x → ∃ y : α, cs = enc_ y ∧ x.1 = dat y ∧ R y)
    {fuel : Nat} {A : Option Addr} {n cap : Nat} {x : DataW H × List MemPlace} (h : DataW.trod enc Try.prog w base sp held fuel t [.slice A n cap] = some x) :
    ∃ l : List α, Sl k enc_ w A n cap l ∧ (∀ y ∈ l, R y) ∧ (x.1 = .nil ∧ l = [] ∨ ∃ rest, x.1 = .slice (l.map dat) rest) := by
  rcases Deep.open_slice ht h with ⟨hcs, hx⟩ | ⟨a, len, c, m, f, D, Pl, hcs, _, hl, hm, hmm, hx, hi⟩
  · simp at hcs
    obtain ⟨rfl, rfl, rfl⟩ := hcs
    exact ⟨[], Sl.nil_ w, fun x hx => by simp at hx, .inl ⟨by rw [hx], rfl⟩⟩
  · simp at hcs
    obtain ⟨rfl, rfl, rfl⟩ := hcs
    have hnm : n ≤ m := by rw [hmm]; split <;> omega
    have key : ∃ l : List α, l.length = n ∧ ∀ i y, l[i]? = some y → (D i = dat y ∧ R y) ∧ ∀ j u, (enc_ y)[j]? = some u → w.cell? (a.add (i * k + j)) = some u := by
      refine list_of n fun i hin => ?_
      obtain ⟨cs', hc, ht'⟩ := hi i (by omega)
      rw [hk] at hc
      obtain ⟨y, rfl, hy, hR⟩ := helem _ _ _ ht'
      obtain ⟨_, _, hat⟩ := World.cells?_some hc
      refine ⟨y, ⟨hy, hR⟩, fun j u hu => ?_⟩
      have hj : j < k := by rw [← hk0 y]; exact (List.getElem?_eq_some_iff.1 hu).1
      rw [← Go.Deep.add_add, hat j hj, hu]
    obtain ⟨l, hll, hP⟩ := key
    have hmap : (List.range n).map D = l.map dat := by
      apply List.ext_getElem?
      intro i
      by_cases hin : i < n
      · have hin2 : i < l.length := by omega
        have h1 := ((hP i _ (List.getElem?_eq_getElem hin2)).1).1
        rw [List.getElem?_map, List.getElem?_map, List.getElem?_eq_getElem hin2, List.getElem?_range hin]
        simp [h1]
      · rw [List.getElem?_eq_none (by simp; omega), List.getElem?_eq_none (by simp; omega)]
    refine ⟨l, ⟨hll, hl, by simpa [maxLen] using hm, by simp, fun h0 => ?_⟩, fun x hx => ?_, .inr ⟨_, by rw [hx, hmap]⟩⟩
    · have hn0 : 0 < l.length := by omega
      have hy := List.getElem?_eq_getElem hn0
      have hz0 : 0 < (enc_ l[0]).length := by rw [hk0]; exact hk1
      have hc := (hP 0 _ hy).2 0 _ (List.getElem?_eq_getElem hz0)
      obtain ⟨b, off, spot⟩ := a
      have hspot : spot = none := by simpa [Addr.add] using World.cell?_spot hc
      subst hspot
      have hb : b < w.heap.size := by
        have := World.block_lt_of_cell? w _ hc
        simpa [Addr.add] using this
      refine ⟨b, off, rfl, hb, fun i y hy j u hu => ?_⟩
      have := (hP i y hy).2 j u hu
      rw [Addr.add_lit] at this
      rw [Nat.add_assoc]
      exact this
    · obtain ⟨i, hi2, rfl⟩ := List.getElem_of_mem hx
      exact ((hP i _ (List.getElem?_eq_getElem hi2)).1).2

/-- A row, a list of columns that came in. -/
theorem open_vs {fuel : Nat} {A : Option Addr} {n cap : Nat} {x : DataW H × List MemPlace} (h : DataW.trod enc Try.prog w base sp held fuel 35 [.slice A n cap] = some x) :
    ∃ l : List V, Vs w A n cap l ∧ okN l ∧ (x.1 = .nil ∧ l = [] ∨ ∃ rest, x.1 = .slice (l.map vdat) rest) := by
  obtain ⟨l, h1, h2, h3⟩ := open_sl (α := V) (enc_ := vcells) vdat (fun y => (Lit.int .i64 y.2.1).wf = true ∧ y.2.2.size ≤ maxLen) Try.underlying35 Try.cellsVal (fun _ => rfl) (by decide) (fun n cs x hx => elem_val hx) h
  refine ⟨l, h1, fun y hy => ?_, h3⟩
  have := (h2 y hy).1
  simp [Lit.wf, IntKind.min, IntKind.max, IntKind.signed, IntKind.bits] at this
  omega
theorem open_cs {fuel : Nat} {A : Option Addr} {n cap : Nat} {x : DataW H × List MemPlace} (h : DataW.trod enc Try.prog w base sp held fuel 24 [.slice A n cap] = some x) :
    ∃ l : List C, Cs w A n cap l ∧ (∀ y ∈ l, y.1.size ≤ maxLen) ∧ (x.1 = .nil ∧ l = [] ∨ ∃ rest, x.1 = .slice (l.map cdat) rest) := by
  obtain ⟨l, h1, h2, h3⟩ := open_sl (α := C) (enc_ := ccells) cdat (fun y => y.1.size ≤ maxLen ∧ (Lit.int .i64 y.2).wf = true) Try.underlying24 Try.cellsCol (fun _ => rfl) (by decide) (fun n cs x hx => elem_col hx) h
  exact ⟨l, h1, fun y hy => (h2 y hy).1, h3⟩
end

/-- What the bound on the bulk says of a row's bytes. -/
theorem bulk_row {H : Type} : ∀ l : List V, sizeR l ≤ 6 * Rows.uptoBulkAll (l.map (vdat (H := H)))
  | [] => Nat.zero_le _
  | x :: l => by
    have ih := bulk_row (H := H) l
    have e : x.2.2.data.toList.length = x.2.2.size := by rw [Array.length_toList]; rfl
    simp only [List.map_cons, Rows.uptoBulkAll, vdat, Rows.uptoBulk, sizeR]
    omega
theorem bulk_row2 {H : Type} {d : DataW H} {l : List V} (h : d = .nil ∧ l = [] ∨ ∃ rest, d = .slice (l.map vdat) rest) : sizeR l ≤ 6 * Rows.uptoBulk d := by
  rcases h with ⟨rfl, rfl⟩ | ⟨rest, rfl⟩
  · exact Nat.zero_le _
  · have := bulk_row (H := H) l
    simp only [Rows.uptoBulk]
    omega
theorem bulk_pos {H : Type} (d : DataW H) : 1 ≤ Rows.uptoBulk d := by
  cases d with
  | lit c => cases c <;> simp [Rows.uptoBulk]
  | _ => simp [Rows.uptoBulk]
theorem bulk_many {H : Type} : ∀ l : List (DataW H), l.length ≤ Rows.uptoBulkAll l
  | [] => Nat.zero_le _
  | d :: l => by
    have h1 := bulk_pos d
    have h2 := bulk_many l
    simp only [Rows.uptoBulkAll, List.length_cons]
    omega
theorem bulk_slice {H : Type} {enc : TypeId × Value → H} {w : World} {base : Nat} {sp : Nat → Bool} {held : Bool} {t e : TypeId} (ht : Try.prog.underlying t = some (.slice e)) {fuel : Nat} {A : Option Addr} {n cap : Nat} {x : DataW H × List MemPlace}
    (h : DataW.trod enc Try.prog w base sp held fuel t [.slice A n cap] = some x) : n ≤ Rows.uptoBulk x.1 := by
  rcases Deep.open_slice ht h with ⟨hcs, _⟩ | ⟨a, len, c, m, f, D, Pl, hcs, _, _, _, _, hx, _⟩
  · simp at hcs
    omega
  · simp at hcs
    have h1 := bulk_many ((List.range len).map D)
    rw [hx]
    simp only [Rows.uptoBulk]
    simp at h1
    omega
end Go.Proofs.Ytkjodlngpdihhaa
