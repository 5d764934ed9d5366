/-
  Sets of rows: plain facts on lists that are ordered by their rows. Nothing of the program's functions is named here.
-/
import Derived.Test.YtcenjjoadhfhaaaRowF
namespace Go.Proofs.Ytcenjjoadhfhaaa
open Go.RowKit
set_option linter.unusedVariables false

theorem lessR_right {a b : List V} (h : lessR a b = true) : rightR a = true ∧ rightR b = true := by
  unfold lessR at h
  split at h
  · rename_i h1; simpa using h1
  · cases h
theorem lessR_of {a b : List V} (ha : rightR a = true) (hb : rightR b = true) : lessR a b = lessL a b := by
  unfold lessR; rw [ha, hb]; rfl
theorem lessR_self (a : List V) : lessR a a = false := by
  unfold lessR; split
  · exact lessL_self a
  · rfl
theorem lessR_tri {a b : List V} (ha : rightR a = true) (hb : rightR b = true) (hne : a ≠ b) : lessR a b = !lessR b a := by
  rw [lessR_of ha hb, lessR_of hb ha]
  exact lessL_tri a b (rightR_ok ha) (rightR_ok hb) hne
theorem lessR_trans {a b c : List V} (h1 : lessR a b = true) (h2 : lessR b c = true) : lessR a c = true := by
  have r1 := lessR_right h1
  have r2 := lessR_right h2
  rw [lessR_of r1.1 r1.2] at h1
  rw [lessR_of r2.1 r2.2] at h2
  rw [lessR_of r1.1 r2.2]
  exact lessL_trans a b c h1 h2
/-- Not less, one behind the other. -/
theorem nless_trans {a b c : List V} (ha : rightR a = true) (hb : rightR b = true) (hc : rightR c = true) (h1 : lessR b a = false) (h2 : lessR c b = false) : lessR c a = false := by
  cases h : lessR c a
  · rfl
  · by_cases hab : a = b
    · subst hab; rw [h] at h2; cases h2
    · have h3 := lessR_tri ha hb hab
      rw [h1] at h3
      have := lessR_trans h h3
      rw [h2] at this; cases this
theorem nless_anti {a b : List V} (ha : rightR a = true) (hb : rightR b = true) (h1 : lessR b a = false) (h2 : lessR a b = false) : a = b := by
  by_cases hab : a = b
  · exact hab
  · have h3 := lessR_tri ha hb hab
    rw [h1, h2] at h3; cases h3

section
variable {α : Type} (key : α → List V)

/-- The rows rise, or stand still. -/
def Rises (l : List α) : Prop := l.Pairwise fun x y => lessR (key y) (key x) = false
def AllRight (l : List α) : Prop := ∀ x ∈ l, rightR (key x) = true
def atRow (r : List V) (l : List α) : List α := l.filter fun x => decide (key x = r)
/-- The same items of each row, in the same order. -/
def Alike (l m : List α) : Prop := ∀ r, atRow key r l = atRow key r m

variable {key}
theorem Alike.refl (l : List α) : Alike key l l := fun _ => rfl
theorem Alike.trans {l m n : List α} (h : Alike key l m) (k : Alike key m n) : Alike key l n := fun r => (h r).trans (k r)
theorem Alike.symm {l m : List α} (h : Alike key l m) : Alike key m l := fun r => (h r).symm
theorem atRow_append (r : List V) (l m : List α) : atRow key r (l ++ m) = atRow key r l ++ atRow key r m := List.filter_append _ _
theorem Alike.mem {l m : List α} (h : Alike key l m) {x : α} (hx : x ∈ l) : x ∈ m := by
  have h1 : x ∈ atRow key (key x) l := List.mem_filter.2 ⟨hx, by simp⟩
  rw [h (key x)] at h1
  exact (List.mem_filter.1 h1).1
theorem Alike.right {l m : List α} (h : Alike key l m) (hr : AllRight key l) : AllRight key m := fun x hx => hr x (h.symm.mem hx)
theorem AllRight.take {l : List α} (h : AllRight key l) (k : Nat) : AllRight key (l.take k) := fun x hx => h x (List.mem_of_mem_take hx)
theorem AllRight.drop {l : List α} (h : AllRight key l) (k : Nat) : AllRight key (l.drop k) := fun x hx => h x (List.mem_of_mem_drop hx)
theorem Alike.length {l m : List α} (h : Alike key l m) : l.length = m.length := by
  induction l generalizing m with
  | nil =>
    cases m with
    | nil => rfl
    | cons y m => exact absurd (h.symm.mem (List.mem_cons_self (a := y))) (by simp)
  | cons x l ih =>
    obtain ⟨p, q, hp, rfl⟩ : ∃ p q, atRow key (key x) p = [] ∧ m = p ++ x :: q := by
      have h1 := h (key x)
      have e1 : atRow key (key x) (x :: l) = x :: atRow key (key x) l := by simp [atRow]
      rw [e1] at h1
      clear h ih e1
      induction m with
      | nil => simp [atRow] at h1
      | cons y m ihm =>
        by_cases hy : key y = key x
        · have e2 : atRow key (key x) (y :: m) = y :: atRow key (key x) m := by simp [atRow, hy]
          rw [e2] at h1
          obtain ⟨rfl, _⟩ := List.cons.inj h1
          exact ⟨[], m, rfl, rfl⟩
        · have e2 : atRow key (key x) (y :: m) = atRow key (key x) m := by simp [atRow, hy]
          rw [e2] at h1
          obtain ⟨p, q, hp, rfl⟩ := ihm h1
          exact ⟨y :: p, q, by simpa [atRow, hy] using hp, rfl⟩
    have hh : Alike key l (p ++ q) := fun r => by
      have h1 := h r
      rw [atRow_append]
      rw [atRow_append] at h1
      by_cases hr : key x = r
      · subst hr
        rw [hp] at h1 ⊢
        have e1 : ∀ z, atRow key (key x) (x :: z) = x :: atRow key (key x) z := fun z => by simp [atRow]
        rw [e1, e1, List.nil_append] at h1
        rw [List.nil_append]
        exact (List.cons.inj h1).2
      · have e1 : ∀ z, atRow key r (x :: z) = atRow key r z := fun z => by simp [atRow, hr]
        rw [e1, e1] at h1
        exact h1
    have := ih hh
    simp only [List.length_append, List.length_cons] at this ⊢
    omega

/-- So many items at the beginning are in order. -/
structure IsRun (key : α → List V) (l : List α) (k : Nat) : Prop where
  le : k ≤ l.length
  pos : 0 < l.length → 1 ≤ k
  up : ∀ i x y, l[i]? = some x → l[i + 1]? = some y → i + 1 < k → lessR (key y) (key x) = false
  ends : ∀ x y, l[k - 1]? = some x → l[k]? = some y → lessR (key y) (key x) = true

theorem rises_up {l : List α} (hr : AllRight key l) (h : ∀ i x y, l[i]? = some x → l[i + 1]? = some y → lessR (key y) (key x) = false) : Rises key l := by
  induction l with
  | nil => exact List.Pairwise.nil
  | cons a l ih =>
    have ihl := ih (fun x hx => hr x (List.mem_cons_of_mem _ hx)) (fun i x y hx hy => h (i + 1) x y (by simpa using hx) (by simpa using hy))
    refine List.Pairwise.cons (fun z hz => ?_) ihl
    cases l with
    | nil => cases hz
    | cons b l =>
      have h1 := h 0 a b rfl rfl
      rcases List.mem_cons.1 hz with rfl | hz
      · exact h1
      · have h2 := (List.pairwise_cons.1 ihl).1 z hz
        exact nless_trans (hr a (by simp)) (hr b (by simp)) (hr z (by simp [hz])) h1 h2
theorem Rises.step {l : List α} (h : Rises key l) {i j : Nat} {x y : α} (hx : l[i]? = some x) (hy : l[j]? = some y) (hij : i < j) : lessR (key y) (key x) = false := by
  obtain ⟨hi, rfl⟩ := List.getElem?_eq_some_iff.1 hx
  obtain ⟨hj, rfl⟩ := List.getElem?_eq_some_iff.1 hy
  exact List.pairwise_iff_getElem.1 h i j hi hj hij
theorem IsRun.rises {l : List α} {k : Nat} (h : IsRun key l k) (hr : AllRight key l) : Rises key (l.take k) := by
  refine rises_up (hr.take k) fun i x y hx hy => ?_
  rw [List.getElem?_take] at hx hy
  split at hy
  · rename_i h1
    rw [if_pos (by omega)] at hx
    exact h.up i x y hx hy h1
  · cases hy
theorem IsRun.whole {l : List α} {k : Nat} (h : IsRun key l k) (hs : Rises key l) : k = l.length := by
  by_cases hk : k < l.length
  · have h1 := h.pos (by omega)
    have := h.ends _ _ (List.getElem?_eq_getElem (i := k - 1) (by omega)) (List.getElem?_eq_getElem hk)
    rw [hs.step (List.getElem?_eq_getElem (i := k - 1) (by omega)) (List.getElem?_eq_getElem hk) (by omega)] at this
    cases this
  · have := h.le; omega

/-- l is made of at most p lists that rise. -/
def Pieces (key : α → List V) (p : Nat) (l : List α) : Prop := ∃ ls : List (List α), ls.flatten = l ∧ ls.length ≤ p ∧ ∀ s ∈ ls, Rises key s
theorem Pieces.singles (l : List α) : Pieces key l.length l :=
  ⟨l.map fun x => [x], by induction l with | nil => rfl | cons x l ih => simp [ih], by simp, fun s hs => by
    obtain ⟨x, _, rfl⟩ := List.mem_map.1 hs
    exact List.pairwise_singleton _ _⟩
theorem Pieces.mono {p q : Nat} {l : List α} (h : Pieces key p l) (hpq : p ≤ q) : Pieces key q l := by
  obtain ⟨ls, h1, h2, h3⟩ := h
  exact ⟨ls, h1, by omega, h3⟩
theorem Pieces.nil_ : Pieces key 0 ([] : List α) := ⟨[], rfl, Nat.le_refl _, fun _ h => by cases h⟩
theorem Pieces.none {l : List α} (h : Pieces key 0 l) : l = [] := by
  obtain ⟨ls, rfl, h2, _⟩ := h
  rw [List.eq_nil_of_length_eq_zero (by omega : ls.length = 0)]; rfl
theorem Pieces.one {l : List α} (h : Pieces key 1 l) : Rises key l := by
  obtain ⟨ls, rfl, h2, h3⟩ := h
  match ls, h2, h3 with
  | [], _, _ => exact List.Pairwise.nil
  | [s], _, h3 => simpa using h3 s (by simp)
  | _ :: _ :: _, h2, _ => simp at h2
theorem Pieces.drop_ (ls : List (List α)) : ∀ j, (∀ s ∈ ls, Rises key s) → ∃ ls' : List (List α), ls'.flatten = ls.flatten.drop j ∧ ls'.length ≤ ls.length ∧ ∀ s ∈ ls', Rises key s := by
  induction ls with
  | nil => exact fun j _ => ⟨[], by simp, Nat.le_refl _, fun _ h => by cases h⟩
  | cons s ls ih =>
    intro j h
    by_cases hj : j ≤ s.length
    · refine ⟨s.drop j :: ls, ?_, by simp, fun t ht => ?_⟩
      · simp only [List.flatten_cons]
        rw [List.drop_append_of_le_length hj]
      · rcases List.mem_cons.1 ht with rfl | ht
        · exact (h s (by simp)).drop
        · exact h t (by simp [ht])
    · obtain ⟨ls', h1, h2, h3⟩ := ih (j - s.length) fun t ht => h t (by simp [ht])
      refine ⟨ls', ?_, by simp; omega, h3⟩
      have e : s.drop j = [] := List.drop_of_length_le (by omega)
      rw [h1, List.flatten_cons, List.drop_append, e, List.nil_append]
theorem Pieces.run {q k : Nat} {l : List α} (h : Pieces key (q + 1) l) (hk : IsRun key l k) : Pieces key q (l.drop k) := by
  obtain ⟨ls, rfl, h2, h3⟩ := h
  cases ls with
  | nil => exact ⟨[], by simp, by simp, fun _ h => by cases h⟩
  | cons s ls =>
    have hs := h3 s (by simp)
    have hle : s.length ≤ k := by
      by_cases hc : k < s.length
      · exfalso
        have hl : k < (s :: ls).flatten.length := by simp; omega
        have h1 := hk.pos (by omega)
        have e1 : (s :: ls).flatten[k - 1]? = s[k - 1]? := by rw [List.flatten_cons, List.getElem?_append_left (by omega)]
        have e2 : (s :: ls).flatten[k]? = s[k]? := by rw [List.flatten_cons, List.getElem?_append_left (by omega)]
        have h4 := hk.ends _ _ (e1.trans (List.getElem?_eq_getElem (by omega))) (e2.trans (List.getElem?_eq_getElem hc))
        rw [hs.step (List.getElem?_eq_getElem (i := k - 1) (by omega)) (List.getElem?_eq_getElem hc) (by omega)] at h4
        cases h4
      · omega
    obtain ⟨ls', g1, g2, g3⟩ := Pieces.drop_ ls (k - s.length) fun t ht => h3 t (by simp [ht])
    refine ⟨ls', ?_, by simp at h2; omega, g3⟩
    have e : s.drop k = [] := List.drop_of_length_le hle
    rw [g1, List.flatten_cons, List.drop_append, e, List.nil_append]
theorem Pieces.snoc {p : Nat} {l s : List α} (h : Pieces key p l) (hs : Rises key s) : Pieces key (p + 1) (l ++ s) := by
  obtain ⟨ls, rfl, h2, h3⟩ := h
  refine ⟨ls ++ [s], by simp, by simp; omega, fun t ht => ?_⟩
  rcases List.mem_append.1 ht with ht | ht
  · exact h3 t ht
  · rw [List.mem_singleton.1 ht]; exact hs

variable (key)
/-- Two lists made one, by their rows; of one row those of the first come first. -/
def mergeF : List α → List α → List α
  | [], b => b
  | x :: a, [] => x :: a
  | x :: a, y :: b => if lessR (key y) (key x) then y :: mergeF (x :: a) b else x :: mergeF a (y :: b)
termination_by a b => a.length + b.length
variable {key}
theorem mergeF_nil (b : List α) : mergeF key [] b = b := by rw [mergeF]
theorem mergeF_nil' (a : List α) : mergeF key a [] = a := by cases a <;> rw [mergeF]
theorem mergeF_mem (a b : List α) : ∀ z, z ∈ mergeF key a b ↔ z ∈ a ∨ z ∈ b := by
  induction a, b using mergeF.induct (key := key) with
  | case1 b => intro z; rw [mergeF]; simp
  | case2 x a => intro z; rw [mergeF]; simp
  | case3 x a y b h ih => intro z; rw [mergeF, if_pos h, List.mem_cons, ih]; simp only [List.mem_cons]; exact or_left_comm
  | case4 x a y b h ih => intro z; rw [mergeF, if_neg h, List.mem_cons, ih]; simp only [List.mem_cons]; exact or_assoc.symm
theorem mergeF_length (a b : List α) : (mergeF key a b).length = a.length + b.length := by
  induction a, b using mergeF.induct (key := key) with
  | case1 b => rw [mergeF]; simp
  | case2 x a => rw [mergeF]; simp
  | case3 x a y b h ih => rw [mergeF, if_pos h, List.length_cons, ih]; simp only [List.length_cons]; omega
  | case4 x a y b h ih => rw [mergeF, if_neg h, List.length_cons, ih]; simp only [List.length_cons]; omega
theorem mergeF_rises (a b : List α) (hra : AllRight key a) (hrb : AllRight key b) (ha : Rises key a) (hb : Rises key b) : Rises key (mergeF key a b) := by
  induction a, b using mergeF.induct (key := key) with
  | case1 b => rw [mergeF]; exact hb
  | case2 x a => rw [mergeF]; exact ha
  | case3 x a y b h ih =>
    rw [mergeF, if_pos h]
    have hb' := List.pairwise_cons.1 hb
    have ha' := List.pairwise_cons.1 ha
    have hyx : lessR (key x) (key y) = false := by
      have := lessR_tri (hrb y (by simp)) (hra x (by simp)) (fun e => by rw [e, lessR_self] at h; cases h)
      rw [h] at this
      simpa using this
    refine List.Pairwise.cons (fun z hz => ?_) (ih hra (fun z hz => hrb z (by simp [hz])) ha hb'.2)
    rcases (mergeF_mem _ _ z).1 hz with hz | hz
    · rcases List.mem_cons.1 hz with rfl | hz
      · exact hyx
      · exact nless_trans (hrb y (by simp)) (hra x (by simp)) (hra z (by simp [hz])) hyx (ha'.1 z hz)
    · exact hb'.1 z hz
  | case4 x a y b h ih =>
    rw [mergeF, if_neg h]
    have hb' := List.pairwise_cons.1 hb
    have ha' := List.pairwise_cons.1 ha
    have hxy : lessR (key y) (key x) = false := by simpa using h
    refine List.Pairwise.cons (fun z hz => ?_) (ih (fun z hz => hra z (by simp [hz])) hrb ha'.2 hb)
    rcases (mergeF_mem _ _ z).1 hz with hz | hz
    · exact ha'.1 z hz
    · rcases List.mem_cons.1 hz with rfl | hz
      · exact hxy
      · exact nless_trans (hra x (by simp)) (hrb y (by simp)) (hrb z (by simp [hz])) hxy (hb'.1 z hz)
theorem mergeF_atRow (a b : List α) (hra : AllRight key a) (hrb : AllRight key b) (ha : Rises key a) (r : List V) : atRow key r (mergeF key a b) = atRow key r a ++ atRow key r b := by
  induction a, b using mergeF.induct (key := key) with
  | case1 b => rw [mergeF]; rfl
  | case2 x a => rw [mergeF]; simp [atRow]
  | case3 x a y b h ih =>
    rw [mergeF, if_pos h]
    have ih' := ih hra (fun z hz => hrb z (by simp [hz])) ha
    by_cases hy : key y = r
    · have hno : atRow key r (x :: a) = [] := by
        apply List.filter_eq_nil_iff.2
        intro z hz hzr
        have hzr : key z = r := by simpa using hzr
        have hxy := h
        rw [hy, ← hzr] at hxy
        rcases List.mem_cons.1 hz with rfl | hz'
        · rw [lessR_self] at hxy; cases hxy
        · rw [(List.pairwise_cons.1 ha).1 z hz'] at hxy; cases hxy
      have e : ∀ t, atRow key r (y :: t) = y :: atRow key r t := fun t => by simp [atRow, hy]
      rw [e, e, ih', hno]; rfl
    · have e : ∀ t, atRow key r (y :: t) = atRow key r t := fun t => by simp [atRow, hy]
      rw [e, e, ih']
  | case4 x a y b h ih =>
    rw [mergeF, if_neg h]
    have ih' := ih (fun z hz => hra z (by simp [hz])) hrb (List.pairwise_cons.1 ha).2
    by_cases hx : key x = r
    · have e : ∀ t, atRow key r (x :: t) = x :: atRow key r t := fun t => by simp [atRow, hx]
      rw [e, e, ih']; rfl
    · have e : ∀ t, atRow key r (x :: t) = atRow key r t := fun t => by simp [atRow, hx]
      rw [e, e, ih']

/-- Lists that rise and have the same items of each row are one. -/
theorem rises_same {l m : List α} (hr : AllRight key l) (hl : Rises key l) (hm : Rises key m) (h : Alike key l m) : l = m := by
  induction l generalizing m with
  | nil =>
    have := h.length
    exact (List.eq_nil_of_length_eq_zero (by simpa using this.symm)).symm
  | cons x l ih =>
    cases m with
    | nil => have := h.length; simp at this
    | cons y m =>
      have hrm := h.right hr
      have h1 : lessR (key x) (key y) = false := by
        rcases List.mem_cons.1 (h.mem (List.mem_cons_self (a := x) (l := l))) with e | hx
        · rw [e]; exact lessR_self _
        · exact (List.pairwise_cons.1 hm).1 x hx
      have h2 : lessR (key y) (key x) = false := by
        rcases List.mem_cons.1 (h.symm.mem (List.mem_cons_self (a := y) (l := m))) with e | hy
        · rw [e]; exact lessR_self _
        · exact (List.pairwise_cons.1 hl).1 y hy
      have hk := nless_anti (hr x (by simp)) (hrm y (by simp)) h2 h1
      have e1 : ∀ t, atRow key (key x) (x :: t) = x :: atRow key (key x) t := fun t => by simp [atRow]
      have e2 : ∀ t, atRow key (key x) (y :: t) = y :: atRow key (key x) t := fun t => by simp [atRow, hk]
      have h3 := h (key x)
      rw [e1, e2] at h3
      obtain ⟨rfl, h4⟩ := List.cons.inj h3
      congr 1
      refine ih (fun z hz => hr z (by simp [hz])) (List.pairwise_cons.1 hl).2 (List.pairwise_cons.1 hm).2 fun r => ?_
      by_cases hxr : key x = r
      · subst hxr; exact h4
      · have h5 := h r
        have e3 : ∀ t, atRow key r (x :: t) = atRow key r t := fun t => by simp [atRow, hxr]
        rwa [e3, e3] at h5

variable (key)
/-- Items put in order, those of one row as they came. -/
def insF (x : α) : List α → List α
  | [] => [x]
  | y :: l => if lessR (key y) (key x) then y :: insF x l else x :: y :: l
def sortF : List α → List α
  | [] => []
  | x :: l => insF key x (sortF l)
variable {key}
theorem insF_mem (x : α) (l : List α) : ∀ z, z ∈ insF key x l ↔ z = x ∨ z ∈ l := by
  induction l with
  | nil => intro z; simp [insF]
  | cons y l ih =>
    intro z
    unfold insF
    split
    · rw [List.mem_cons, ih]; simp only [List.mem_cons]; exact or_left_comm
    · exact List.mem_cons
theorem insF_rises {x : α} {l : List α} (hx : rightR (key x) = true) (hr : AllRight key l) (hl : Rises key l) : Rises key (insF key x l) := by
  induction l with
  | nil => exact List.pairwise_singleton _ _
  | cons y l ih =>
    have hl' := List.pairwise_cons.1 hl
    unfold insF
    split
    · rename_i h
      refine List.Pairwise.cons (fun z hz => ?_) (ih (fun z hz => hr z (by simp [hz])) hl'.2)
      rcases (insF_mem x l z).1 hz with rfl | hz
      · have := lessR_tri (hr y (by simp)) hx (fun e => by rw [e, lessR_self] at h; cases h)
        rw [h] at this
        simpa using this
      · exact hl'.1 z hz
    · rename_i h
      have h : lessR (key y) (key x) = false := by simpa using h
      refine List.Pairwise.cons (fun z hz => ?_) hl
      rcases List.mem_cons.1 hz with rfl | hz
      · exact h
      · exact nless_trans hx (hr y (by simp)) (hr z (by simp [hz])) h (hl'.1 z hz)
theorem insF_atRow (x : α) (l : List α) (r : List V) : atRow key r (insF key x l) = atRow key r (x :: l) := by
  induction l with
  | nil => rfl
  | cons y l ih =>
    unfold insF
    split
    · rename_i h
      have hne : ¬ (key y = r ∧ key x = r) := fun ⟨h1, h2⟩ => by rw [h1, h2, lessR_self] at h; cases h
      have c : ∀ (z : α) (t : List α), atRow key r (z :: t) = if key z = r then z :: atRow key r t else atRow key r t := fun z t => by
        unfold atRow; rw [List.filter_cons]; simp
      rw [c, ih, c, c, c]
      by_cases h1 : key y = r
      · by_cases h2 : key x = r
        · exact absurd ⟨h1, h2⟩ hne
        · simp [h1, h2]
      · simp [h1]
    · rfl
theorem sortF_right {l : List α} (hr : AllRight key l) : AllRight key (sortF key l) := by
  induction l with
  | nil => exact hr
  | cons x l ih =>
    intro z hz
    rcases (insF_mem x _ z).1 hz with rfl | hz
    · exact hr _ (by simp)
    · exact ih (fun z hz => hr z (by simp [hz])) z hz
theorem sortF_rises {l : List α} (hr : AllRight key l) : Rises key (sortF key l) := by
  induction l with
  | nil => exact List.Pairwise.nil
  | cons x l ih =>
    have hr' : AllRight key l := fun z hz => hr z (by simp [hz])
    exact insF_rises (hr x (by simp)) (sortF_right hr') (ih hr')
theorem sortF_alike (l : List α) : Alike key (sortF key l) l := by
  induction l with
  | nil => exact Alike.refl _
  | cons x l ih =>
    intro r
    have c : ∀ (z : α) (t : List α), atRow key r (z :: t) = if key z = r then z :: atRow key r t else atRow key r t := fun z t => by
      unfold atRow; rw [List.filter_cons]; simp
    show atRow key r (insF key x (sortF key l)) = _
    rw [insF_atRow, c, c, ih r]
theorem sortF_only {l m : List α} (hr : AllRight key l) (hm : Rises key m) (h : Alike key m l) : m = sortF key l :=
  (rises_same (sortF_right hr) (sortF_rises hr) hm ((sortF_alike l).trans h.symm)).symm
theorem atRow_map {β : Type} (f : α → β) (key' : β → List V) (l : List α) (r : List V) : atRow key' r (l.map f) = (atRow (fun x => key' (f x)) r l).map f := by
  unfold atRow
  rw [List.filter_map]
  rfl
theorem Alike.map {β : Type} (f : α → β) {key' : β → List V} {l m : List α} (h : Alike (fun x => key' (f x)) l m) : Alike key' (l.map f) (m.map f) := fun r => by
  rw [atRow_map, atRow_map, h r]
theorem Rises.map {β : Type} (f : α → β) {key' : β → List V} {l : List α} (h : Rises (fun x => key' (f x)) l) : Rises key' (l.map f) := by
  unfold Rises at h ⊢
  rw [List.pairwise_map]
  exact h
end
end Go.Proofs.Ytcenjjoadhfhaaa
