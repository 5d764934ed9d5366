/-
  Rows as lists of Values: what is valid, the order, what is written: plain facts.
-/
import Derived.Test.YtcenjjoadhfhaaaEls
import Derived.Test.YtcenjjoadhfhaaaOrdV
namespace Go.Proofs.Ytcenjjoadhfhaaa
open Go.RowKit
set_option linter.unusedVariables false

/-- P5.2: all values are valid; the row is. -/
abbrev rightVV (x : V) : Bool := rightV x.1 x.2.1 x.2.2
abbrev lessVV (x y : V) : Bool := lessV x.1 x.2.1 x.2.2 y.1 y.2.1 y.2.2
def okR (l : List V) : Bool := l.all fun x => rightVV x
def rightR (l : List V) : Bool := (decide (1 ≤ l.length) && decide (l.length ≤ 6)) && okR l
theorem okR_take {l : List V} {k : Nat} {x : V} (hx : l[k]? = some x) : okR (l.take (k + 1)) = (okR (l.take k) && rightVV x) := by
  obtain ⟨hk, rfl⟩ := List.getElem?_eq_some_iff.1 hx
  unfold okR
  rw [List.take_succ_eq_append_getElem hk, List.all_append]
  simp
theorem okR_not {l : List V} {k : Nat} {x : V} (hx : l[k]? = some x) (hr : rightVV x = false) : okR l = false := by
  unfold okR
  rw [List.all_eq_false]
  exact ⟨x, List.mem_of_getElem? hx, by simp [hr]⟩
theorem okR_at {l : List V} {k : Nat} {x : V} (h : okR l = true) (hx : l[k]? = some x) : rightVV x = true := List.all_eq_true.1 h x (List.mem_of_getElem? hx)
theorem rightR_ok {l : List V} (h : rightR l = true) : okR l = true := by unfold rightR at h; simp only [Bool.and_eq_true] at h; exact h.2
theorem rightR_len {l : List V} (h : rightR l = true) : 1 ≤ l.length ∧ l.length ≤ 6 := by unfold rightR at h; simp only [Bool.and_eq_true, decide_eq_true_eq] at h; exact h.1

theorem take_step {α : Type} {a b : List α} {k : Nat} {x : α} (h : a.take k = b.take k) (hx : a[k]? = some x) (hy : b[k]? = some x) : a.take (k + 1) = b.take (k + 1) := by
  obtain ⟨ha, rfl⟩ := List.getElem?_eq_some_iff.1 hx
  obtain ⟨hb, e⟩ := List.getElem?_eq_some_iff.1 hy
  rw [List.take_succ_eq_append_getElem ha, List.take_succ_eq_append_getElem hb, h, e]

/-- P5.2: the order of rows. -/
def lessL : List V → List V → Bool
  | _, [] => false
  | [], _ :: _ => true
  | x :: a, y :: b => if x = y then lessL a b else lessVV x y
def lessR (a b : List V) : Bool := if rightR a && rightR b then lessL a b else false
theorem lessVV_self (x : V) : lessVV x x = false := by
  unfold lessVV lessV
  split
  · simp [bl_irrefl]
  · rfl
theorem lessVV_tri {x y : V} (h : rightVV x = true) (h' : rightVV y = true) (hne : x ≠ y) : lessVV x y = !lessVV y x := by
  have := less_tri h h'
  have hs : sameV x.1 x.2.1 x.2.2 y.1 y.2.1 y.2.2 = false := by
    cases hc : sameV x.1 x.2.1 x.2.2 y.1 y.2.1 y.2.2
    · rfl
    · obtain ⟨h1, h2, h3⟩ := sameV_iff.1 hc
      exact absurd (Prod.ext h1 (Prod.ext h2 h3)) hne
  rw [hs] at this
  unfold lessVV
  revert this
  generalize lessV x.1 x.2.1 x.2.2 y.1 y.2.1 y.2.2 = p
  generalize lessV y.1 y.2.1 y.2.2 x.1 x.2.1 x.2.2 = q
  revert p q
  decide
theorem lessVV_trans {x y z : V} (h1 : lessVV x y = true) (h2 : lessVV y z = true) : lessVV x z = true := less_trans h1 h2
theorem lessVV_ne {x y : V} (h : lessVV x y = true) : x ≠ y := by rintro rfl; rw [lessVV_self] at h; cases h
theorem lessL_self : ∀ a : List V, lessL a a = false
  | [] => rfl
  | x :: a => by simp [lessL, lessL_self a]
theorem okR_cons {x : V} {a : List V} (h : okR (x :: a) = true) : rightVV x = true ∧ okR a = true := by unfold okR at h ⊢; simpa using h
theorem lessL_tri : ∀ a b : List V, okR a = true → okR b = true → a ≠ b → lessL a b = !lessL b a
  | [], [], _, _, h => absurd rfl h
  | [], _ :: _, _, _, _ => rfl
  | _ :: _, [], _, _, _ => rfl
  | x :: a, y :: b, h, h', hne => by
    unfold lessL
    by_cases e : x = y
    · subst e
      simp only [if_true]
      exact lessL_tri a b (okR_cons h).2 (okR_cons h').2 (fun c => hne (by rw [c]))
    · rw [if_neg e, if_neg (fun c => e c.symm)]
      exact lessVV_tri (okR_cons h).1 (okR_cons h').1 e
theorem lessL_trans : ∀ a b c : List V, lessL a b = true → lessL b c = true → lessL a c = true
  | _, [], _, h, _ => by simp [lessL] at h
  | _, _ :: _, [], _, h => by simp [lessL] at h
  | [], _ :: _, _ :: _, _, _ => rfl
  | x :: a, y :: b, z :: c, h1, h2 => by
    unfold lessL at h1 h2 ⊢
    by_cases e1 : x = y
    · subst e1
      rw [if_pos rfl] at h1
      by_cases e2 : x = z
      · subst e2
        rw [if_pos rfl] at h2 ⊢
        exact lessL_trans a b c h1 h2
      · rw [if_neg e2] at h2 ⊢
        exact h2
    · rw [if_neg e1] at h1
      by_cases e2 : y = z
      · subst e2
        rw [if_neg e1]
        exact h1
      · rw [if_neg e2] at h2
        have h3 := lessVV_trans h1 h2
        rw [if_neg (lessVV_ne h3)]
        exact h3
theorem lessL_more (x : V) (b : List V) : ∀ a : List V, lessL a (a ++ x :: b) = true
  | [] => rfl
  | y :: a => by simp [lessL, lessL_more x b a]
theorem lessL_common : ∀ (k : Nat) (a b : List V), a.take k = b.take k → k ≤ a.length → k ≤ b.length → lessL a b = lessL (a.drop k) (b.drop k)
  | 0, _, _, _, _, _ => rfl
  | k + 1, [], _, _, h, _ => by simp at h
  | k + 1, _ :: _, [], _, _, h => by simp at h
  | k + 1, x :: a, y :: b, h, h1, h2 => by
    simp only [List.take_succ_cons, List.cons.injEq] at h
    obtain ⟨rfl, h⟩ := h
    simp only [List.length_cons, Nat.add_le_add_iff_right] at h1 h2
    simp only [lessL, if_true, List.drop_succ_cons]
    exact lessL_common k a b h h1 h2
theorem drop_of_get {α : Type} {a : List α} {k : Nat} {x : α} (h : a[k]? = some x) : a.drop k = x :: a.drop (k + 1) := by
  obtain ⟨hk, rfl⟩ := List.getElem?_eq_some_iff.1 h
  exact List.drop_eq_getElem_cons hk
theorem lessL_at {k : Nat} {a b : List V} {x y : V} (h : a.take k = b.take k) (hx : a[k]? = some x) (hy : b[k]? = some y) (hne : x ≠ y) : lessL a b = lessVV x y := by
  rw [lessL_common k a b h (Nat.le_of_lt (List.getElem?_eq_some_iff.1 hx).1) (Nat.le_of_lt (List.getElem?_eq_some_iff.1 hy).1), drop_of_get hx, drop_of_get hy]
  simp [lessL, hne]
theorem lessL_end {k : Nat} {a b : List V} (h : a.take k = b.take k) (h1 : k ≤ a.length) (h2 : k ≤ b.length) (he : k = a.length ∨ k = b.length) : lessL a b = decide (a.length < b.length) := by
  rw [lessL_common k a b h h1 h2]
  by_cases hb : k = b.length
  · have h3 : b.drop k = [] := List.drop_eq_nil_of_le (by omega)
    rw [h3]
    have : ¬ a.length < b.length := by omega
    simp [lessL, this]
  · have ha : k = a.length := he.resolve_right hb
    have h3 : a.drop k = [] := List.drop_eq_nil_of_le (by omega)
    have h4 : k < b.length := by omega
    rw [h3, List.drop_eq_getElem_cons h4]
    have : a.length < b.length := by omega
    simp [lessL, this]
theorem eq_end {α : Type} {k : Nat} {a b : List α} (h : a.take k = b.take k) (h1 : k = a.length) (h2 : k = b.length) : a = b := by
  rwa [List.take_of_length_le (by omega), List.take_of_length_le (by omega)] at h
theorem ne_at {α : Type} {k : Nat} {a b : List α} {x y : α} (hx : a[k]? = some x) (hy : b[k]? = some y) (hne : x ≠ y) : a ≠ b := by
  rintro rfl
  exact hne (Option.some.inj (hx.symm.trans hy))

/-- P5.2: the same. -/
def eqL (a b : List V) : Bool := decide (a = b)
def sameR (a b : List V) : Bool := rightR a && eqL a b
theorem sameR_less {a b : List V} : sameR a b = (rightR a && rightR b && !lessL a b && !lessL b a) := by
  unfold sameR eqL
  by_cases e : a = b
  · subst e
    simp [lessL_self]
  · simp only [decide_eq_false e, Bool.and_false]
    cases ha : rightR a
    · rfl
    · cases hb : rightR b
      · rfl
      · have := lessL_tri a b (rightR_ok ha) (rightR_ok hb) e
        rw [this]
        cases lessL b a <;> rfl

/-- P5.2: each value is of its column's Kind. -/
def fitsL : List C → List V → Bool
  | [], [] => true
  | c :: l, x :: r => (rightVV x && x.1 == c.2) && fitsL l r
  | _, _ => false
theorem fitsL_len : ∀ (l : List C) (r : List V), fitsL l r = true → l.length = r.length
  | [], [], _ => rfl
  | [], _ :: _, h => by cases h
  | _ :: _, [], h => by cases h
  | c :: l, x :: r, h => by
    simp only [fitsL, Bool.and_eq_true] at h
    simp [fitsL_len l r h.2]
theorem fitsL_ne {l : List C} {r : List V} (h : l.length ≠ r.length) : fitsL l r = false := by
  cases hf : fitsL l r
  · rfl
  · exact absurd (fitsL_len l r hf) h
theorem fitsL_step : ∀ (k : Nat) (l : List C) (r : List V) (c : C) (x : V), fitsL (l.take k) (r.take k) = true → l[k]? = some c → r[k]? = some x → rightVV x = true → x.1 = c.2 → fitsL (l.take (k + 1)) (r.take (k + 1)) = true
  | 0, [], _, _, _, _, h, _, _, _ => by cases h
  | 0, _ :: _, [], _, _, _, _, h, _, _ => by cases h
  | 0, c :: l, x :: r, _, _, _, h1, h2, hr, hk => by
    simp at h1 h2
    subst h1; subst h2
    simp [fitsL, hr, hk]
  | k + 1, [], _, _, _, _, h, _, _, _ => by cases h
  | k + 1, _ :: _, [], _, _, _, _, h, _, _ => by cases h
  | k + 1, c :: l, x :: r, c', x', h, h1, h2, hr, hk => by
    rw [List.take_succ_cons, List.take_succ_cons] at h ⊢
    simp only [fitsL, Bool.and_eq_true] at h ⊢
    exact ⟨h.1, fitsL_step k l r c' x' h.2 (by simpa using h1) (by simpa using h2) hr hk⟩
theorem fitsL_not : ∀ (k : Nat) (l : List C) (r : List V) (c : C) (x : V), l[k]? = some c → r[k]? = some x → (rightVV x = false ∨ x.1 ≠ c.2) → fitsL l r = false
  | _, [], _, _, _, h, _, _ => by simp at h
  | _, _ :: _, [], _, _, _, h, _ => by simp at h
  | 0, c :: l, x :: r, _, _, h1, h2, h => by
    simp at h1 h2
    subst h1; subst h2
    rcases h with h | h
    · simp [fitsL, h]
    · simp [fitsL, h]
  | k + 1, c :: l, x :: r, c', x', h1, h2, h => by
    simp only [fitsL]
    rw [fitsL_not k l r c' x' (by simpa using h1) (by simpa using h2) h]
    simp
theorem fitsL_at : ∀ (k : Nat) (l : List C) (r : List V) (c : C) (x : V), fitsL l r = true → l[k]? = some c → r[k]? = some x → rightVV x = true ∧ x.1 = c.2 := by
  intro k l r c x h h1 h2
  constructor
  · cases hr : rightVV x
    · rw [fitsL_not k l r c x h1 h2 (.inl hr)] at h; cases h
    · rfl
  · by_cases hk : x.1 = c.2
    · exact hk
    · rw [fitsL_not k l r c x h1 h2 (.inr hk)] at h; cases h

/-- P5.1: names. -/
def words : List (List UInt8) := [[116, 97, 98, 108, 101], [102, 105, 108, 116, 101, 114], [112, 114, 111, 106, 101, 99, 116], [106, 111, 105, 110], [117, 110, 105, 111, 110], [100, 105, 115, 116, 105, 110, 99, 116], [103, 114, 111, 117, 112], [99, 111, 117, 110, 116], [115, 117, 109], [109, 105, 110], [109, 97, 120], [97, 100, 100], [115, 117, 98], [109, 117, 108], [110, 101, 103], [101, 113], [108, 116], [97, 110, 100], [111, 114], [110, 111, 116], [99, 97, 116], [108, 101, 110], [105, 102]]
def letterB (c : UInt8) : Bool := decide (97 ≤ c.toNat) && decide (c.toNat ≤ 122)
def nameV (s : ByteArray) : Bool := (decide (1 ≤ s.size) && decide (s.size ≤ 12)) && (s.data.toList.all letterB && !words.contains s.data.toList)
/-- P5.1: where a column of this name stands first. -/
def named (s : ByteArray) (c : C) : Bool := c.1.toList == s.toList
def findC (l : List C) (s : ByteArray) : Option Nat := l.findIdx? (named s)
theorem findC_some {l : List C} {s : ByteArray} {k : Nat} {c : C} (hT : ∀ i c, i < k → l[i]? = some c → named s c = false) (hc : l[k]? = some c) (h : named s c = true) : findC l s = some k := by
  unfold findC
  rw [List.findIdx?_eq_some_iff_getElem]
  obtain ⟨hk, rfl⟩ := List.getElem?_eq_some_iff.1 hc
  exact ⟨hk, h, fun j hj => by simp [hT j _ hj (List.getElem?_eq_getElem (by omega))]⟩
theorem findC_none {l : List C} {s : ByteArray} (hT : ∀ i c, i < l.length → l[i]? = some c → named s c = false) : findC l s = none := by
  unfold findC
  rw [List.findIdx?_eq_none_iff]
  intro c hc
  obtain ⟨i, hi, rfl⟩ := List.getElem_of_mem hc
  exact hT i _ hi (List.getElem?_eq_getElem hi)
def foundAt (o : Option Nat) : Int := match o with | some k => (k : Int) | none => 0
/-- P5.1: the first error of columns. -/
def colsFrom (pre : List C) : List C → Int
  | [] => 0
  | c :: r => if (nameV c.1 && (c.2 == 1 || c.2 == 2)) = false then 20 else if (findC pre c.1).isSome = true then 21 else colsFrom (pre ++ [c]) r
def colsV (l : List C) : Int := if (decide (1 ≤ l.length) && decide (l.length ≤ 6)) = true then colsFrom [] l else 23
theorem colsFrom_at {l : List C} {k : Nat} {c : C} (hc : l[k]? = some c) : colsFrom (l.take k) (l.drop k) =
    if (nameV c.1 && (c.2 == 1 || c.2 == 2)) = false then 20 else if (findC (l.take k) c.1).isSome = true then 21 else colsFrom (l.take (k + 1)) (l.drop (k + 1)) := by
  have ht : l.take (k + 1) = l.take k ++ [c] := by
    obtain ⟨hk, rfl⟩ := List.getElem?_eq_some_iff.1 hc
    rw [List.take_succ_eq_append_getElem hk]
  rw [drop_of_get hc, ht]
  rfl
end Go.Proofs.Ytcenjjoadhfhaaa
