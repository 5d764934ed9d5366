/-
  Slices of whole numbers and of calls (Kind, Client, Seq and a reply) that came in.
-/
import Derived.Test.YtdfoangkjeoomaaNa
import Derived.Test.YtdfoangkjeoomaaRows
import Derived.Deep.Slices
import Derived.ProofKit
import Derived.OpenShut
namespace Go.Proofs.Ytdfoangkjeoomaa
open Go.RowKit Go.WideShapes Go.ChangeShapes
set_option linter.unusedVariables false
set_option maxRecDepth 100000

/-- The slice (A, n, cap) holds the elements l, each of k cells as enc tells. -/
structure Sn {α : Type} (k : Nat) (enc : α → List Value) (w : World) (A : Option Addr) (n cap : Nat) (l : List α) : Prop where
  len : l.length = n
  le : n ≤ cap
  max : cap ≤ 9223372036854775807
  nil : A = none → n = 0 ∧ cap = 0
  rd : 0 < n → ∃ b off, A = some ⟨b, off, none⟩ ∧ b < w.heap.size ∧ ∀ i x, l[i]? = some x → ∀ j u, (enc x)[j]? = some u → w.cell? ⟨b, off + i * k + j, none⟩ = some u

section
variable {α : Type} {k : Nat} {enc : α → List Value} {w w' : World} {A : Option Addr} {n cap : Nat} {l : List α}
theorem Sn.below (h : Sn k enc w A n cap l) (hb : Below w.heap.size w w') : Sn k enc w' A n cap l :=
  ⟨h.len, h.le, h.max, h.nil, fun hn => by
    obtain ⟨b, off, e, hlt, hc⟩ := h.rd hn
    exact ⟨b, off, e, Nat.lt_of_lt_of_le hlt hb.size, fun i x hx j u hu => (hb.cell (p := ⟨b, off + i * k + j, none⟩) hlt).trans (hc i x hx j u hu)⟩⟩
theorem Sn.ev (h : Sn k enc w A n cap l) (hb : Ev w w') : Sn k enc w' A n cap l := h.below hb
theorem Sn.but {K : List Nat} (h : Sn k enc w A n cap l) (hb : But K w w') (hA : ∀ ad, A = some ad → ad.block ∉ K) : Sn k enc w' A n cap l :=
  ⟨h.len, h.le, h.max, h.nil, fun hn => by
    obtain ⟨b, off, e, hlt, hc⟩ := h.rd hn
    refine ⟨b, off, e, Nat.lt_of_lt_of_le hlt hb.size, fun i x hx j u hu => ?_⟩
    rw [World.cell?_of_block (w := w) (hb.block b hlt (hA _ e))]
    exact hc i x hx j u hu⟩
theorem Sn.nil_ (w : World) : Sn k enc w none 0 0 ([] : List α) := ⟨rfl, Nat.le_refl _, by omega, fun _ => ⟨rfl, rfl⟩, fun h => absurd h (by omega)⟩
/-- 'b[:m]'. -/
theorem Sn.to (h : Sn k enc w A n cap l) (m : Nat) (hm : m ≤ n) : Sn k enc w A m cap (l.take m) :=
  ⟨by rw [List.length_take, h.len]; omega, Nat.le_trans hm h.le, h.max, fun e => by have := h.nil e; omega, fun h0 => by
    obtain ⟨b, off, e, hlt, hc⟩ := h.rd (by omega)
    refine ⟨b, off, e, hlt, fun i x hx j u hu => hc i x ?_ j u hu⟩
    rw [List.getElem?_take] at hx
    split at hx
    · exact hx
    · cases hx⟩
theorem Sn.at (h : Sn k enc w A n cap l) {i : Nat} (hi : i < n) : ∃ x, l[i]? = some x := ⟨_, List.getElem?_eq_getElem (by rw [h.len]; exact hi)⟩
end

theorem list_at {α : Type} {P : Nat → α → Prop} : ∀ (n : Nat), (∀ i, i < n → ∃ x, P i x) → ∃ l : List α, l.length = n ∧ ∀ i x, l[i]? = some x → P i x
  | 0, _ => ⟨[], rfl, fun i x h => by simp at h⟩
  | n + 1, h => by
    obtain ⟨l, hl, hP⟩ := list_at n (fun i hi => h i (by omega))
    obtain ⟨x, hx⟩ := h n (by omega)
    refine ⟨l ++ [x], by simp [hl], fun i y hy => ?_⟩
    by_cases hi : i < n
    · rw [List.getElem?_append_left (by omega)] at hy
      exact hP i y hy
    · have hlt := (List.getElem?_eq_some_iff.1 hy).1
      rw [List.length_append, hl, List.length_cons, List.length_nil] at hlt
      obtain rfl : i = n := by omega
      rw [List.getElem?_append_right (by omega), hl, Nat.sub_self] at hy
      simp at hy
      exact hy ▸ hx

/-- A call: Kind, Client, Seq and a reply. -/
abbrev AK := Int × Int × Int × RP
def acells (x : AK) : List Value := [.int .i64 x.1, .int .i64 x.2.1, .int .i64 x.2.2.1, .int .i64 x.2.2.2.1, .int .i64 x.2.2.2.2.1, .string x.2.2.2.2.2]
def icells (x : Int) : List Value := [.int .i64 x]
def RIn (r : RP) : Prop := (-9223372036854775808 ≤ r.1 ∧ r.1 ≤ 9223372036854775807) ∧ (-9223372036854775808 ≤ r.2.1 ∧ r.2.1 ≤ 9223372036854775807)
def adat {H : Type} (x : AK) : DataW H := .agg [.lit (.int .i64 x.1), .lit (.int .i64 x.2.1), .lit (.int .i64 x.2.2.1), .agg [.lit (.int .i64 x.2.2.2.1), .lit (.int .i64 x.2.2.2.2.1), .lit (.string x.2.2.2.2.2.data.toList)]]
def idat {H : Type} (x : Int) : DataW H := .lit (.int .i64 x)
theorem Try.cellsAsk : Try.prog.cellsOf 43 = 6 := by kernel_rfl
theorem Try.cellsReply : Try.prog.cellsOf 26 = 3 := by kernel_rfl
theorem Try.cellsErrno : Try.prog.cellsOf 24 = 1 := by kernel_rfl
theorem Try.cellsInt : Try.prog.cellsOf 3 = 1 := by kernel_rfl
theorem Try.cellsStr : Try.prog.cellsOf 9 = 1 := by kernel_rfl
theorem wf_i64 {x : Int} (h : (Lit.int .i64 x).wf = true) : -9223372036854775808 ≤ x ∧ x ≤ 9223372036854775807 := by
  simp [Lit.wf, IntKind.min, IntKind.max, IntKind.signed, IntKind.bits] at h
  omega

section
variable {H : Type} {enc : TypeId × Value → H} {w : World} {base : Nat} {sp : Nat → Bool} {held : Bool}
theorem elem_int {n : Nat} {cs : List Value} {x : DataW H × List MemPlace} (h : DataW.trod enc Try.prog w base sp held n 3 cs = some x) :
    ∃ y : Int, cs = icells y ∧ x.1 = idat y ∧ (-9223372036854775808 ≤ y ∧ y ≤ 9223372036854775807) := by
  obtain ⟨k, e0, rfl, wk⟩ := DataW.trod_int Try.underlying3 h
  exact ⟨k, e0, rfl, wf_i64 wk⟩
theorem elem_rep {n : Nat} {cs : List Value} {x : DataW H × List MemPlace} (h : DataW.trod enc Try.prog w base sp held n 26 cs = some x) :
    ∃ y : RP, cs = [.int .i64 y.1, .int .i64 y.2.1, .string y.2.2] ∧ x.1 = .agg [.lit (.int .i64 y.1), .lit (.int .i64 y.2.1), .lit (.string y.2.2.data.toList)] ∧ RIn y ∧ y.2.2.size ≤ maxLen := by
  obtain ⟨xs, n', _, hx, hl, hlen, hg⟩ := DataW.trod_struct Try.underlying26 h
  rw [Try.cellsReply] at hl
  match cs, hl with
  | [c0, c1, c2], _ =>
    match xs, hlen with
    | [y0, y1, y2], _ =>
      have h0 : DataW.trod enc Try.prog w base sp held n' 24 (([c0, c1, c2].drop 0).take (Try.prog.cellsOf 24)) = some y0 := hg 0 _ rfl
      have h1 : DataW.trod enc Try.prog w base sp held n' 3 (([c0, c1, c2].drop 1).take (Try.prog.cellsOf 3)) = some y1 := hg 1 _ rfl
      have h2 : DataW.trod enc Try.prog w base sp held n' 9 (([c0, c1, c2].drop 2).take (Try.prog.cellsOf 9)) = some y2 := hg 2 _ rfl
      rw [Try.cellsErrno] at h0
      rw [Try.cellsInt] at h1
      rw [Try.cellsStr] at h2
      obtain ⟨k, e0, rfl, wk⟩ := DataW.trod_int Try.underlying24 h0
      obtain ⟨m, e1, rfl, wm⟩ := DataW.trod_int Try.underlying3 h1
      obtain ⟨s, e2, rfl, ws⟩ := DataW.trod_string Try.underlying9 h2
      simp at e0 e1 e2
      subst e0; subst e1; subst e2
      exact ⟨(k, m, s), rfl, by rw [hx]; rfl, ⟨wf_i64 wk, wf_i64 wm⟩, ws⟩
theorem elem_ask {n : Nat} {cs : List Value} {x : DataW H × List MemPlace} (h : DataW.trod enc Try.prog w base sp held n 43 cs = some x) :
    ∃ y : AK, cs = acells y ∧ x.1 = adat y ∧ (RIn y.2.2.2 ∧ y.2.2.2.2.2.size ≤ maxLen) := by
  obtain ⟨xs, n', _, hx, hl, hlen, hg⟩ := DataW.trod_struct Try.underlying43 h
  rw [Try.cellsAsk] at hl
  match cs, hl with
  | [c0, c1, c2, c3, c4, c5], _ =>
    match xs, hlen with
    | [y0, y1, y2, y3], _ =>
      have h0 : DataW.trod enc Try.prog w base sp held n' 3 (([c0, c1, c2, c3, c4, c5].drop 0).take (Try.prog.cellsOf 3)) = some y0 := hg 0 _ rfl
      have h1 : DataW.trod enc Try.prog w base sp held n' 3 (([c0, c1, c2, c3, c4, c5].drop 1).take (Try.prog.cellsOf 3)) = some y1 := hg 1 _ rfl
      have h2 : DataW.trod enc Try.prog w base sp held n' 3 (([c0, c1, c2, c3, c4, c5].drop 2).take (Try.prog.cellsOf 3)) = some y2 := hg 2 _ rfl
      have h3 : DataW.trod enc Try.prog w base sp held n' 26 (([c0, c1, c2, c3, c4, c5].drop 3).take (Try.prog.cellsOf 26)) = some y3 := hg 3 _ rfl
      rw [Try.cellsInt] at h0 h1 h2
      rw [Try.cellsReply] at h3
      obtain ⟨k0, e0, rfl, _⟩ := DataW.trod_int Try.underlying3 h0
      obtain ⟨k1, e1, rfl, _⟩ := DataW.trod_int Try.underlying3 h1
      obtain ⟨k2, e2, rfl, _⟩ := DataW.trod_int Try.underlying3 h2
      obtain ⟨r, e3, d3, hr, hs⟩ := elem_rep h3
      simp at e0 e1 e2 e3
      obtain ⟨rfl, rfl, rfl⟩ := e3
      subst e0; subst e1; subst e2
      obtain ⟨y3, p3⟩ := y3
      simp only at d3
      subst d3
      exact ⟨(k0, k1, k2, r), rfl, by rw [hx]; rfl, hr, hs⟩

/-- A slice of structs that came in. -/
theorem open_sn {α : Type} {k : Nat} {enc_ : α → List Value} {t e : TypeId} (dat : α → DataW H) (R : α → Prop) (ht : Try.prog.underlying t = some (.slice e)) (hk : Try.prog.cellsOf e = k) (hk0 : ∀ y, (enc_ y).length = k) (hk1 : 0 < k)
    (helem : ∀ (n : Nat) (cs : List Value) (x : DataW H × List MemPlace), DataW.trod enc Try.prog w base sp held n e cs = some x → ∃ y : α, cs = enc_ y ∧ x.1 = dat y ∧ R y)
    {fuel : Nat} {A : Option Addr} {n cap : Nat} {x : DataW H × List MemPlace} (h : DataW.trod enc Try.prog w base sp held fuel t [.slice A n cap] = some x) :
    ∃ l : List α, Sn k enc_ w A n cap l ∧ (∀ y ∈ l, R y) ∧ (x.1 = .nil ∧ l = [] ∨ ∃ rest, x.1 = .slice (l.map dat) rest) := by
  rcases Deep.open_slice ht h with ⟨hcs, hx⟩ | ⟨a, len, c, m, f, D, Pl, hcs, _, hl, hm, hmm, hx, hi⟩
  · simp at hcs
    obtain ⟨rfl, rfl, rfl⟩ := hcs
    exact ⟨[], Sn.nil_ w, fun x hx => by simp at hx, .inl ⟨by rw [hx], rfl⟩⟩
  · simp at hcs
    obtain ⟨rfl, rfl, rfl⟩ := hcs
    have hnm : n ≤ m := by rw [hmm]; split <;> omega
    have key : ∃ l : List α, l.length = n ∧ ∀ i y, l[i]? = some y → (D i = dat y ∧ R y) ∧ ∀ j u, (enc_ y)[j]? = some u → w.cell? (a.add (i * k + j)) = some u := by
      refine list_at n fun i hin => ?_
      obtain ⟨cs', hc, ht'⟩ := hi i (by omega)
      rw [hk] at hc
      obtain ⟨y, rfl, hy, hR⟩ := helem _ _ _ ht'
      obtain ⟨_, _, hat⟩ := World.cells?_some hc
      refine ⟨y, ⟨hy, hR⟩, fun j u hu => ?_⟩
      have hj : j < k := by rw [← hk0 y]; exact (List.getElem?_eq_some_iff.1 hu).1
      rw [← Go.Deep.add_add, hat j hj, hu]
    obtain ⟨l, hll, hP⟩ := key
    have hmap : (List.range n).map D = l.map dat := by
      apply List.ext_getElem?
      intro i
      by_cases hin : i < n
      · have hin2 : i < l.length := by omega
        have h1 := ((hP i _ (List.getElem?_eq_getElem hin2)).1).1
        rw [List.getElem?_map, List.getElem?_map, List.getElem?_eq_getElem hin2, List.getElem?_range hin]
        simp [h1]
      · rw [List.getElem?_eq_none (by simp; omega), List.getElem?_eq_none (by simp; omega)]
    refine ⟨l, ⟨hll, hl, by simpa [maxLen] using hm, by simp, fun h0 => ?_⟩, fun x hx => ?_, .inr ⟨_, by rw [hx, hmap]⟩⟩
    · have hn0 : 0 < l.length := by omega
      have hy := List.getElem?_eq_getElem hn0
      have hz0 : 0 < (enc_ l[0]).length := by rw [hk0]; exact hk1
      have hc := (hP 0 _ hy).2 0 _ (List.getElem?_eq_getElem hz0)
      obtain ⟨b, off, spot⟩ := a
      have hspot : spot = none := by simpa [Addr.add] using World.cell?_spot hc
      subst hspot
      have hb : b < w.heap.size := by
        have := World.block_lt_of_cell? w _ hc
        simpa [Addr.add] using this
      refine ⟨b, off, rfl, hb, fun i y hy j u hu => ?_⟩
      have := (hP i y hy).2 j u hu
      rw [Addr.add_lit] at this
      rw [Nat.add_assoc]
      exact this
    · obtain ⟨i, hi2, rfl⟩ := List.getElem_of_mem hx
      exact ((hP i _ (List.getElem?_eq_getElem hi2)).1).2

abbrev Ns := Sn 1 icells
abbrev As := Sn 6 acells
theorem open_ns {fuel : Nat} {A : Option Addr} {n cap : Nat} {x : DataW H × List MemPlace} (h : DataW.trod enc Try.prog w base sp held fuel 46 [.slice A n cap] = some x) :
    ∃ l : List Int, Ns w A n cap l ∧ ∀ y ∈ l, -9223372036854775808 ≤ y ∧ y ≤ 9223372036854775807 := by
  obtain ⟨l, h1, h2, _⟩ := open_sn (α := Int) (enc_ := icells) idat (fun y => -9223372036854775808 ≤ y ∧ y ≤ 9223372036854775807) Try.underlying46 Try.cellsInt (fun _ => rfl) (by decide) (fun n cs x hx => elem_int hx) h
  exact ⟨l, h1, h2⟩
theorem open_as {fuel : Nat} {A : Option Addr} {n cap : Nat} {x : DataW H × List MemPlace} (h : DataW.trod enc Try.prog w base sp held fuel 36 [.slice A n cap] = some x) :
    ∃ l : List AK, As w A n cap l ∧ ∀ y ∈ l, RIn y.2.2.2 ∧ y.2.2.2.2.2.size ≤ maxLen := by
  obtain ⟨l, h1, h2, _⟩ := open_sn (α := AK) (enc_ := acells) adat (fun y => RIn y.2.2.2 ∧ y.2.2.2.2.2.size ≤ maxLen) Try.underlying36 Try.cellsAsk (fun _ => rfl) (by decide) (fun n cs x hx => elem_ask hx) h
  exact ⟨l, h1, h2⟩
end
end Go.Proofs.Ytdfoangkjeoomaa
