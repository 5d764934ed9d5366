/-
  What Make makes: plain facts.
-/
import Derived.Test.YtcenjjoadhfhaaaZe
namespace Go.Proofs.Ytcenjjoadhfhaaa
open Go.RowKit
set_option linter.unusedVariables false

/-- How many items at the beginning have the row of the first. -/
def repF : List I → Nat
  | [] => 0
  | x :: l => 1 + (l.takeWhile fun y => decide (y.1 = x.1)).length
/-- A list whose rows rise, each row's tallies added up; those of Net 0 left out. -/
def groupF : Nat → List I → Option (List I)
  | 0, _ => some []
  | _ + 1, [] => some []
  | f + 1, x :: l => match sumN 0 ((x :: l).take (repF (x :: l))) with
    | none => none
    | some m => (groupF f ((x :: l).drop (repF (x :: l)))).map fun s => if m = 0 then s else (x.1, redP m, redQ m) :: s
def makeF (l : List I) : Option (List I) := groupF l.length (sortF keyI l)

theorem repF_pos (x : I) (l : List I) : 1 ≤ repF (x :: l) := by
  show 1 ≤ 1 + (l.takeWhile _).length
  omega
theorem groupF_fuel : ∀ (f f' : Nat) (l : List I), l.length ≤ f → l.length ≤ f' → groupF f l = groupF f' l
  | 0, 0, _, _, _ => rfl
  | 0, f' + 1, l, h, _ => by
    have := List.eq_nil_of_length_eq_zero (Nat.le_zero.1 h)
    subst this; rfl
  | f + 1, 0, l, _, h => by
    have := List.eq_nil_of_length_eq_zero (Nat.le_zero.1 h)
    subst this; rfl
  | f + 1, f' + 1, [], _, _ => rfl
  | f + 1, f' + 1, x :: l, h, h' => by
    have hp := repF_pos x l
    have h1 : ((x :: l).drop (repF (x :: l))).length ≤ f := by rw [List.length_drop]; simp only [List.length_cons] at h ⊢; omega
    have h2 : ((x :: l).drop (repF (x :: l))).length ≤ f' := by rw [List.length_drop]; simp only [List.length_cons] at h' ⊢; omega
    simp only [groupF]
    rw [groupF_fuel f f' _ h1 h2]
theorem groupF_step (x : I) (l : List I) : groupF (x :: l).length (x :: l) = match sumN 0 ((x :: l).take (repF (x :: l))) with
    | none => none
    | some m => (groupF ((x :: l).drop (repF (x :: l))).length ((x :: l).drop (repF (x :: l)))).map fun s => if m = 0 then s else (x.1, redP m, redQ m) :: s := by
  have hp := repF_pos x l
  rw [List.length_cons]
  simp only [groupF]
  rw [groupF_fuel l.length ((x :: l).drop (repF (x :: l))).length _ (by rw [List.length_drop, List.length_cons]; omega) (Nat.le_refl _)]

theorem takeWhile_length {α : Type} {p : α → Bool} : ∀ (l : List α) (k : Nat), k ≤ l.length → (∀ i x, i < k → l[i]? = some x → p x = true) → (∀ x, l[k]? = some x → p x = false) → (l.takeWhile p).length = k
  | [], k, hk, _, _ => by simp at hk; simp [hk]
  | x :: l, 0, _, _, h => by
    have := h x rfl
    simp [this]
  | x :: l, k + 1, hk, h1, h2 => by
    have h0 := h1 0 x (by omega) rfl
    rw [List.takeWhile_cons_of_pos h0, List.length_cons, takeWhile_length l k (by simpa using hk) (fun i y hi hy => h1 (i + 1) y (by omega) (by simpa using hy)) (fun y hy => h2 y (by simpa using hy))]

theorem itemsOf_get {Z : List J} {i : Nat} {x : I} (h : (itemsOf Z)[i]? = some x) : ∃ z, Z[i]? = some z ∧ z.2 = x := by
  unfold itemsOf at h
  rw [List.getElem?_map, Option.map_eq_some_iff] at h
  exact h
theorem itemsOf_length (Z : List J) : (itemsOf Z).length = Z.length := by simp [itemsOf]
theorem itemsOf_take (Z : List J) (k : Nat) : itemsOf (Z.take k) = (itemsOf Z).take k := by simp [itemsOf, List.map_take]
theorem itemsOf_drop (Z : List J) (k : Nat) : itemsOf (Z.drop k) = (itemsOf Z).drop k := by simp [itemsOf, List.map_drop]
theorem sameR_right {a b : List V} (h : rightR a = true) : sameR a b = decide (a = b) := by unfold sameR; rw [h]; rfl
theorem Reps.eq {Z : List J} {k : Nat} (h : Reps Z k) (hr : AllRight keyJ Z) : k = repF (itemsOf Z) := by
  obtain ⟨h1, h2, h3, h4⟩ := h
  cases Z with
  | nil => simp at h1; omega
  | cons z Z =>
    have e : itemsOf (z :: Z) = z.2 :: itemsOf Z := rfl
    rw [e]
    show k = 1 + ((itemsOf Z).takeWhile fun y => decide (y.1 = z.2.1)).length
    rw [takeWhile_length (itemsOf Z) (k - 1) (by rw [itemsOf_length]; simp at h1; omega)]
    · omega
    · intro i x hi hx
      obtain ⟨y, hy, rfl⟩ := itemsOf_get hx
      have := h3 (i + 1) y z (by omega) (by simpa using hy) rfl
      rw [sameR_right (hr y (List.mem_cons_of_mem _ (List.mem_of_getElem? hy)))] at this
      exact this
    · intro x hx
      obtain ⟨y, hy, rfl⟩ := itemsOf_get hx
      have := h4 y z (by rw [show k = k - 1 + 1 by omega]; simpa using hy) rfl
      rw [sameR_right (hr y (List.mem_cons_of_mem _ (List.mem_of_getElem? hy)))] at this
      exact this
theorem wrong_not {Z : List J} (h : Z.any wrongJ = false) : AllRight keyJ Z ∧ AllParts Z := by
  rw [List.any_eq_false] at h
  have key : ∀ z ∈ Z, (rightR z.2.1 && (partB z.2.2.1 && partB z.2.2.2)) = true := fun z hz => by
    have h1 := h z hz
    unfold wrongJ at h1
    cases hc : (rightR z.2.1 && (partB z.2.2.1 && partB z.2.2.2))
    · rw [hc] at h1; exact absurd rfl h1
    · rfl
  refine ⟨fun z hz => ?_, fun z hz => ?_⟩
  all_goals
    have h1 := key z hz
    rw [Bool.and_eq_true, Bool.and_eq_true] at h1
  · exact h1.1
  · exact ⟨partB_iff.1 h1.2.1, partB_iff.1 h1.2.2⟩
theorem sorted_items {Z Z' : List J} (hr : AllRight keyJ Z) (ha : Alike keyJ Z' Z) (hs : Rises keyJ Z') : itemsOf Z' = sortF keyI (itemsOf Z) := by
  refine sortF_only (fun x hx => ?_) (Rises.map (fun z : J => z.2) (key' := keyI) hs) (Alike.map (fun z : J => z.2) (key' := keyI) ha)
  obtain ⟨z, hz, rfl⟩ := List.mem_map.1 hx
  exact hr z hz
end Go.Proofs.Ytcenjjoadhfhaaa
