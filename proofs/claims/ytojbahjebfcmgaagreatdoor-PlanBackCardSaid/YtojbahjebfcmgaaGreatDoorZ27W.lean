/-
  Texts that belong together: What is read, by the program or by the document's own Read, is fine, not deep, small. Plain facts. Chapter 9 in plain words: plans, their trees, what a tree is read as. Chapter 9 in plain words: places matter for errors alone; a plan's tree is read as that plan; the tree of what was read is what was read. Chapter 9 in plain words: a tree that is read as a plan is that plan's tree, but for places. Chapter 9 in plain words: what Read makes of a tree: its tree is the same but for places, and it is good.
-/
import Derived.Test.YtojbahjebfcmgaaGreatDoorZ24W
import Derived.Test.YtojbahjebfcmgaaGreatDoorZ22W
import Derived.Test.YtojbahjebfcmgaaGreatDoorZ25W
import Derived.Test.YtojbahjebfcmgaaGreatDoorZ23W
namespace Go.Proofs.YtojbahjebfcmgaaGreatDoor
open Go.RowKit
set_option linter.unusedVariables false

theorem sxRun_pos {p : UInt8 → Bool} {c : UInt8} {q : By} (h : p c = true) : (c :: q).take (sxRun p (c :: q)) = c :: q.take (sxRun p q) := by
  simp [sxRun, h]
theorem scan_fine (c : UInt8) (q : By) (hq : q.length ≤ 600) (h : (sxScan (c :: q)).why = 0) :
    ((sxScan (c :: q)).kind = 1 ∧ (sxScan (c :: q)).s = [] ∧ (sxScan (c :: q)).n = 0) ∨ (sxScan (c :: q)).kind = -1 ∨ fineLeaf (sxScan (c :: q)).kind (sxScan (c :: q)).s (sxScan (c :: q)).n [] = true := by
  revert h
  simp only [sxScan]
  split
  · exact fun _ => .inl ⟨rfl, rfl, rfl⟩
  split
  · exact fun _ => .inr (.inl rfl)
  split
  · intro h
    have h1 := sxText_s q.length q [] 1 (Nat.le_refl _)
    have h2 := sxText_n q.length q [] 1 (Nat.le_refl _)
    have h3 := ((sxText_props q.length q [] 1 (Nat.le_refl _)).2 h).1
    right; right
    rw [h2, h3]
    unfold fineLeaf
    simp [h1]
  split
  · simp only [sxNumber]
    split
    · intro h
      have h1 := sxNum_n false (sxDigits q) (sxDigits_all q)
      have h2 := ((sxNum_props false (sxDigits q) (sxDigits_all q)).2 h).1
      right; right
      rw [h1.2, h2]
      have h3 := h1.1
      unfold i64R at h3
      unfold fineLeaf
      simp [h3]
    · intro h
      have h1 := sxNum_n true (sxDigits (c :: q)) (sxDigits_all (c :: q))
      have h2 := ((sxNum_props true (sxDigits (c :: q)) (sxDigits_all (c :: q))).2 h).1
      right; right
      rw [h1.2, h2]
      have h3 := h1.1
      unfold i64R at h3
      unfold fineLeaf
      simp [h3]
  split
  · rename_i hl
    intro _
    right; right
    rw [sxRun_pos hl]
    have hall : (c :: q.take (sxRun sxLetter q)).all sxLetter = true := by
      rw [← sxRun_pos hl, List.all_eq_true]
      exact sxRun_all sxLetter (c :: q)
    have hlen : (c :: q.take (sxRun sxLetter q)).length ≤ 1000 := by simp only [List.length_cons, List.length_take]; omega
    unfold fineLeaf
    rw [hall, decide_eq_true hlen]
    rfl
  · intro h
    simp [sxWrong] at h
/-- The list of what is open, from place j on. -/
def InvAt : Nat → List T → Prop
  | _, [] => True
  | j, e :: os => (j = 0 ∨ (e.kind = 1 ∧ e.s = [] ∧ e.n = 0 ∧ j ≤ 12)) ∧ (∀ k ∈ e.kids, k.fine = true ∧ j + k.deep ≤ 12) ∧ InvAt (j + 1) os
theorem inv_put : ∀ (os : List T) (j : Nat) (t : T), InvAt j os → t.fine = true → j + os.length + t.deep ≤ 13 → InvAt j (sxPut os t)
  | [], j, t, h, _, _ => trivial
  | [e], j, t, h, ht, hd => by
    refine ⟨h.1.imp id fun h => h, fun k hk => ?_, trivial⟩
    rw [T.add_kids] at hk
    rcases List.mem_append.1 hk with h1 | h1
    · exact h.2.1 k h1
    · simp at h1
      subst h1
      simp at hd
      exact ⟨ht, by omega⟩
  | e :: e' :: os, j, t, h, ht, hd => by
    refine ⟨h.1, h.2.1, inv_put (e' :: os) (j + 1) t h.2.2 ht ?_⟩
    simp only [List.length_cons] at hd ⊢
    omega
theorem inv_snoc : ∀ (os : List T) (j : Nat) (e : T), InvAt j (os ++ [e]) ↔ (InvAt j os ∧ InvAt (j + os.length) [e])
  | [], j, e => by simp [InvAt]
  | a :: os, j, e => by
    simp only [List.cons_append, InvAt, inv_snoc os (j + 1) e, List.length_cons]
    rw [show j + 1 + os.length = j + (os.length + 1) by omega]
    constructor
    · rintro ⟨h1, h2, h3, h4⟩
      exact ⟨⟨h1, h2, h3⟩, h4⟩
    · rintro ⟨⟨h1, h2, h3⟩, h4⟩
      exact ⟨h1, h2, h3, h4⟩
theorem deeps_le : ∀ (l : List T) (d : Nat), (∀ k ∈ l, k.deep ≤ d) → T.deeps l ≤ d
  | [], d, _ => by simp [T.deeps]
  | a :: l, d, h => by
    have h1 := h a (List.mem_cons_self ..)
    have h2 := deeps_le l d fun k hk => h k (List.mem_cons_of_mem _ hk)
    rw [T.deeps]
    omega
theorem fines_all : ∀ l : List T, T.fines l = l.all T.fine
  | [] => rfl
  | t :: l => by simp [T.fines, fines_all l]
theorem inv_pop (os : List T) (e : T) (h0 : os ≠ []) (h : InvAt 0 (os ++ [e])) : InvAt 0 (sxPut os e) := by
  obtain ⟨h1, h2, h3, _⟩ := (inv_snoc os 0 e).1 h
  have hpos : 0 < os.length := by cases os with | nil => exact absurd rfl h0 | cons a b => simp
  rcases h2 with h2 | ⟨k1, k2, k3, k4⟩
  · omega
  · rw [Nat.zero_add] at h3 k4
    refine inv_put os 0 e h1 ?_ ?_
    · cases e with
      | mk k s n l p =>
        simp only [T.kind, T.s, T.n] at k1 k2 k3
        subst k1; subst k2; subst k3
        rw [T.fine, fines_all]
        have : l.all T.fine = true := List.all_eq_true.2 fun x hx => (h3 x hx).1
        rw [this]
        rfl
    · cases e with
      | mk k s n l p =>
        simp only [T.kind] at k1
        subst k1
        rw [T.deep, if_pos rfl]
        have := deeps_le l (12 - os.length) fun x hx => by have := (h3 x hx).2; omega
        omega
theorem inv_open (os : List T) (pos : Nat) (h : InvAt 0 os) (hl : os.length ≤ 12) : InvAt 0 (os ++ [.mk 1 [] 0 [] pos]) := by
  refine (inv_snoc os 0 _).2 ⟨h, .inr ⟨rfl, rfl, rfl, by omega⟩, (fun k hk => by cases hk), trivial⟩
theorem leaf_deep {k : Int} {s : By} {n : Int} {p : Nat} (h : fineLeaf k s n [] = true) : (T.mk k s n [] p).fine = true ∧ (T.mk k s n [] p).deep = 0 ∧ k ≠ 1 ∧ k ≠ -1 := by
  obtain ⟨c, q, h1, h2, h3, h4, h5, _⟩ := leaf_scan (p := p) h (r := []) (.inl rfl)
  have h4' := beq_eq_false_iff_ne.1 h4
  refine ⟨by rw [T.fine, h, Bool.or_true], by rw [T.deep, if_neg h4'], h4', beq_eq_false_iff_ne.1 h5⟩
/-- What is read. -/
def ReadsT (r : Res) : Prop := r.2.1 = 0 → r.1.fine = true ∧ r.1.deep ≤ 12 ∧ r.1.size ≤ 601
theorem reads_bad {t : T} {why : Int} {pos : Nat} (h : why ≠ 0) : ReadsT (t, why, pos) := fun h0 => absurd h0 h
theorem reads_whole (os : List T) (pos : Nat) (h : InvAt 0 os) (hs : (os.map T.size).sum ≤ 601) : ReadsT (sxWhole os pos) := by
  unfold sxWhole
  cases os with
  | nil => exact reads_bad (by decide)
  | cons e os =>
    cases hk : e.kids with
    | nil => simp only [hk]; exact reads_bad (by decide)
    | cons t l =>
      simp only [hk]
      intro _
      have h1 := h.2.1 t (by rw [hk]; exact List.mem_cons_self ..)
      have := T.size_eq e
      rw [hk] at this
      simp only [List.map_cons, List.sum_cons] at this hs
      exact ⟨h1.1, (by show t.deep ≤ 12; omega), (by show t.size ≤ 601; omega)⟩
theorem put_ne {os : List T} (h : os ≠ []) (t : T) : sxPut os t ≠ [] := by
  intro h2
  have := sxPut_len os t
  rw [h2] at this
  cases os with
  | nil => exact h rfl
  | cons a b => simp at this
theorem take_reads (os : List T) (x : Tk) (pos : Nat) (h0 : os ≠ []) (h : InvAt 0 os) (h13 : os.length ≤ 13) (hx : (x.kind = 1 ∧ x.s = [] ∧ x.n = 0) ∨ x.kind = -1 ∨ fineLeaf x.kind x.s x.n [] = true) (h1 : x.kind = -1 → os.length ≠ 1) (h2 : x.kind = 1 → os.length ≤ 12) :
    sxTake os (x.tree pos) ≠ [] ∧ InvAt 0 (sxTake os (x.tree pos)) ∧ (sxTake os (x.tree pos)).length ≤ 13 ∧ ((sxTake os (x.tree pos)).map T.size).sum ≤ (os.map T.size).sum + 1 := by
  rcases hx with ⟨k1, k2, k3⟩ | k1 | k1
  · have e : sxTake os (x.tree pos) = os ++ [.mk 1 [] 0 [] pos] := by
      unfold sxTake Tk.tree
      simp [T.kind, k1, k2, k3]
    rw [e]
    refine ⟨by simp, inv_open os pos h (h2 k1), by have := h2 k1; simp; omega, by simp [T.size, T.sizes]⟩
  · have e : sxTake os (x.tree pos) = rfPop os := by
      unfold sxTake Tk.tree rfPop
      simp only [T.kind, k1]
      rfl
    rw [e]
    have hsum := pop_sum os
    unfold rfPop at hsum ⊢
    cases hl : os.getLast? with
    | none =>
      rw [List.getLast?_eq_none_iff] at hl
      exact absurd hl h0
    | some y =>
      rw [List.getLast?_eq_some_iff] at hl
      obtain ⟨l, rfl⟩ := hl
      simp only [List.dropLast_concat, List.getLast?_concat] at hsum ⊢
      have hl0 : l ≠ [] := by rintro rfl; exact h1 k1 rfl
      refine ⟨put_ne hl0 y, inv_pop l y hl0 h, ?_, by omega⟩
      rw [sxPut_len]
      simp at h13
      omega
  · obtain ⟨f1, f2, f3, f4⟩ := leaf_deep (p := pos) k1
    have e : sxTake os (x.tree pos) = sxPut os (.mk x.kind x.s x.n [] pos) := by
      unfold sxTake Tk.tree
      simp [T.kind, f3, f4]
    rw [e]
    have hp := put_sum os (.mk x.kind x.s x.n [] pos)
    have hz : (T.mk x.kind x.s x.n [] pos).size = 1 := rfl
    refine ⟨put_ne h0 _, inv_put os 0 _ h f1 (by rw [f2]; omega), by rw [sxPut_len]; exact h13, by omega⟩
theorem sxGo_reads : ∀ (f : Nat) (os : List T) (r : By) (pos : Nat), os ≠ [] → InvAt 0 os → os.length ≤ 13 → (os.map T.size).sum ≤ pos + 1 → pos + r.length ≤ 600 → ReadsT (sxGo f os r pos)
  | 0, _, _, _, _, _, _, _, _ => reads_bad (by decide)
  | f + 1, os, r, pos, h0, h, h13, hs, hp => by
    unfold sxGo
    have hrl := sxRun_le sxBlank r
    have hdl : (r.drop (sxRun sxBlank r)).length = r.length - sxRun sxBlank r := List.length_drop ..
    cases hd : r.drop (sxRun sxBlank r) with
    | nil => exact reads_whole os _ h (by omega)
    | cons c q =>
      simp only
      rw [hd] at hdl
      simp only [List.length_cons] at hdl
      split
      · rename_i hj
        have hok := sxScan_ok c q
        obtain ⟨j1, j2, j3, j4⟩ := sxJudge_ok hok (by simpa using hj)
        have hg := hok.good j1
        have hfine := scan_fine c q (by omega) j1
        generalize sxScan (c :: q) = x at *
        obtain ⟨t1, t2, t3, t4⟩ := take_reads os x (pos + sxRun sxBlank r) h0 h h13 hfine j2 j4
        refine sxGo_reads f _ _ _ t1 t2 t3 (by have := hg.1; omega) ?_
        rw [List.length_drop, List.length_cons]
        have := hg.2.1
        simp only [List.length_cons] at this
        omega
      · rename_i hj
        exact reads_bad (by simpa using hj)
theorem sx_reads (l : By) : ReadsT (sxRead l) := by
  unfold sxRead
  split
  · exact reads_bad (by decide)
  · exact sxGo_reads _ _ _ _ (by simp) ⟨.inl rfl, (fun k hk => by cases hk), trivial⟩ (by simp) (by decide +kernel) (by omega)
mutual
theorem fine_fair : ∀ t : T, t.fine = true → t.every fairB = true ∧ t.every textB = true
  | .mk k s n l p, h => by
    have hl := fines_fair l
    have hi0 : i64R 0 := by decide
    rw [T.fine, Bool.or_eq_true] at h
    rw [T.every, T.every]
    rcases h with h | h
    · simp only [Bool.and_eq_true, beq_iff_eq, List.isEmpty_iff] at h
      obtain ⟨⟨⟨rfl, rfl⟩, rfl⟩, h4⟩ := h
      obtain ⟨h5, h6⟩ := hl h4
      rw [h5, h6, fairB_mk hi0 (by simp)]
      exact ⟨rfl, rfl⟩
    · unfold fineLeaf at h
      simp only [Bool.or_eq_true, Bool.and_eq_true, beq_iff_eq, decide_eq_true_eq, Bool.not_eq_true', List.isEmpty_iff, List.all_eq_true] at h
      rcases h with (⟨⟨⟨rfl, hs, _⟩, rfl, h1⟩, rfl⟩ | ⟨⟨⟨rfl, rfl⟩, h1, h2⟩, rfl⟩) | ⟨⟨⟨rfl, hs⟩, rfl⟩, rfl⟩
      · rw [fairB_mk hi0 (by omega)]
        exact ⟨rfl, rfl⟩
      · rw [fairB_mk ⟨h1, h2⟩ (by simp)]
        exact ⟨rfl, rfl⟩
      · rw [fairB_mk hi0 (by omega)]
        refine ⟨rfl, ?_⟩
        unfold textB
        simp [T.kind, T.s, hs, T.everys]
theorem fines_fair : ∀ l : List T, T.fines l = true → T.everys fairB l = true ∧ T.everys textB l = true
  | [], _ => ⟨rfl, rfl⟩
  | t :: l, h => by
    rw [T.fines, Bool.and_eq_true] at h
    have h1 := fine_fair t h.1
    have h2 := fines_fair l h.2
    rw [T.everys, T.everys, h1.1, h1.2, h2.1, h2.2]
    exact ⟨rfl, rfl⟩
end
end Go.Proofs.YtojbahjebfcmgaaGreatDoor

namespace Go.Proofs.YtojbahjebfcmgaaGreatDoor
open Go.RowKit
set_option linter.unusedVariables false

/-- The function of a group and what it asks. -/
abbrev Ag := By × By × By
inductive Pl where
  | mk (kind : Int) (name : By) (exprs : List T) (cols left right : List By) (aggs : List Ag) (kids : List Pl) : Pl
def Pl.kind : Pl → Int
  | .mk k _ _ _ _ _ _ _ => k
def Pl.name : Pl → By
  | .mk _ s _ _ _ _ _ _ => s
def Pl.exprs : Pl → List T
  | .mk _ _ l _ _ _ _ _ => l
def Pl.cols : Pl → List By
  | .mk _ _ _ l _ _ _ _ => l
def Pl.left : Pl → List By
  | .mk _ _ _ _ l _ _ _ => l
def Pl.right : Pl → List By
  | .mk _ _ _ _ _ l _ _ => l
def Pl.aggs : Pl → List Ag
  | .mk _ _ _ _ _ _ l _ => l
def Pl.kids : Pl → List Pl
  | .mk _ _ _ _ _ _ _ l => l
def pZero : Pl := .mk 0 [] [] [] [] [] [] []

def bTable : By := [116, 97, 98, 108, 101]
def bFilter : By := [102, 105, 108, 116, 101, 114]
def bProject : By := [112, 114, 111, 106, 101, 99, 116]
def bJoin : By := [106, 111, 105, 110]
def bUnion : By := [117, 110, 105, 111, 110]
def bDistinct : By := [100, 105, 115, 116, 105, 110, 99, 116]
def bGroup : By := [103, 114, 111, 117, 112]
def bCount : By := [99, 111, 117, 110, 116]
def bSum : By := [115, 117, 109]
def bMin : By := [109, 105, 110]
def bMax : By := [109, 97, 120]
def pAtom (s : By) : T := .mk 2 s 0 [] 0
def pOpen (l : List T) : T := .mk 1 [] 0 l 0
def pNames (l : List By) : T := pOpen (l.map pAtom)
def agTree (a : Ag) : T := pOpen (if a.2.2.isEmpty then [pAtom a.1, pAtom a.2.1] else [pAtom a.1, pAtom a.2.1, pAtom a.2.2])
def colTree (c : By) (e : T) : T := pOpen [pAtom c, xTree e]
def pHead (k : Int) (nm : By) (es : List T) (cs lf rt : List By) (ag : List Ag) : List T :=
  if k = 1 then [pAtom bTable, pAtom nm]
  else if k = 2 then pAtom bFilter :: es.map xTree
  else if k = 3 then pAtom bProject :: List.zipWith colTree cs es
  else if k = 4 then [pAtom bJoin, pNames lf, pNames rt]
  else if k = 5 then [pAtom bUnion]
  else if k = 6 then [pAtom bDistinct]
  else if k = 7 then pAtom bGroup :: pNames lf :: ag.map agTree
  else []
mutual
/-- The tree of a plan. -/
def pTree : Pl → T
  | .mk k nm es cs lf rt ag l => pOpen (pHead k nm es cs lf rt ag ++ pTrees l)
def pTrees : List Pl → List T
  | [] => []
  | p :: l => pTree p :: pTrees l
end
theorem pTrees_map : ∀ l : List Pl, pTrees l = l.map pTree
  | [] => by simp [pTrees]
  | p :: l => by simp [pTrees, pTrees_map l]
def pKind (s : By) : Nat := if s == bTable then 1 else if s == bFilter then 2 else if s == bProject then 3 else if s == bJoin then 4 else if s == bUnion then 5 else if s == bDistinct then 6 else if s == bGroup then 7 else 0
abbrev at_ (l : List T) (i : Nat) : T := l.getD i sxZero
def isAtomT (t : T) : Bool := t.kind == 2
def isNmsT (t : T) : Bool := t.kind == 1 && t.kids.all isAtomT
def isColT (t : T) : Bool := t.kind == 1 && t.kids.length == 2 && isAtomT (at_ t.kids 0)
def isAggT (t : T) : Bool := isNmsT t && (t.kids.length == 2 || t.kids.length == 3)
def pFormOf (k : Nat) (q : List T) : Bool :=
  match k with
  | 1 => q.length == 1 && isAtomT (at_ q 0)
  | 2 => q.length == 2
  | 3 => decide (2 ≤ q.length) && (q.take (q.length - 1)).all isColT
  | 4 => q.length == 4 && (q.take 2).all isNmsT
  | 5 => q.length == 2
  | 6 => q.length == 1
  | 7 => decide (2 ≤ q.length) && isNmsT (at_ q 0) && ((q.take (q.length - 1)).drop 1).all isAggT
  | _ => false
/-- Has a tree the form of a plan? -/
def pForm (t : T) : Bool := t.kind == 1 && decide (2 ≤ t.kids.length) && isAtomT (at_ t.kids 0) && pFormOf (pKind (at_ t.kids 0).s) (t.kids.drop 1)
def colN (t : T) : By := (at_ t.kids 0).s
def colE (t : T) : T := (xRead (at_ t.kids 1)).1
def agOf (t : T) : Ag := ((at_ t.kids 0).s, (at_ t.kids 1).s, if t.kids.length == 3 then (at_ t.kids 2).s else [])
def pMake (k : Nat) (q : List T) (ps : List Pl) : Pl :=
  match k with
  | 1 => .mk 1 (at_ q 0).s [] [] [] [] [] []
  | 2 => .mk 2 [] [(xRead (at_ q 0)).1] [] [] [] [] (ps.drop 1)
  | 3 => .mk 3 [] ((q.take (q.length - 1)).map colE) ((q.take (q.length - 1)).map colN) [] [] [] (ps.drop (q.length - 1))
  | 4 => .mk 4 [] [] [] ((at_ q 0).kids.map T.s) ((at_ q 1).kids.map T.s) [] (ps.drop 2)
  | 5 => .mk 5 [] [] [] [] [] [] ps
  | 6 => .mk 6 [] [] [] [] [] [] ps
  | _ => .mk 7 [] [] [] ((at_ q 0).kids.map T.s) [] (((q.take (q.length - 1)).drop 1).map agOf) (ps.drop (q.length - 1))
mutual
/-- The plan of a tree. -/
def pPlan : T → Pl
  | .mk k s n l p => if pForm (.mk k s n l p) then pMake (pKind (at_ l 0).s) (l.drop 1) ((pPlans l).drop 1) else pZero
def pPlans : List T → List Pl
  | [] => []
  | t :: l => pPlan t :: pPlans l
end
theorem pPlans_map : ∀ l : List T, pPlans l = l.map pPlan
  | [] => by simp [pPlans]
  | p :: l => by simp [pPlans, pPlans_map l]
/-- Errors: the first one stays. -/
abbrev Er := Int × Nat
def orE (a b : Er) : Er := if a.1 == 0 && !(b.1 == 0) then b else a
def firsts (l : List Er) : Er := l.foldl orE (0, 0)
def nmErr (t : T) : Er := if xName t.s then (0, 0) else (20, t.pos)
def exErr (t : T) : Er := ((xRead t).2.1, (xRead t).2.2)
def isFun (f : By) (of : Bool) : Bool := if f == bSum || f == bMin || f == bMax then of else if f == bCount then !of else false
def colErrs (t : T) : List Er := [nmErr (at_ t.kids 0), exErr (at_ t.kids 1)]
def agErrs (t : T) : List Er := [nmErr (at_ t.kids 0), if isFun (at_ t.kids 1).s (t.kids.length == 3) then (0, 0) else (12, (at_ t.kids 1).pos), if t.kids.length == 3 then nmErr (at_ t.kids 2) else (0, 0)]
def pErrOf (k : Nat) (q : List T) (es : List Er) : List Er :=
  match k with
  | 1 => [nmErr (at_ q 0)]
  | 2 => exErr (at_ q 0) :: es.drop 1
  | 3 => (q.take (q.length - 1)).flatMap colErrs ++ es.drop (q.length - 1)
  | 4 => (at_ q 0).kids.map nmErr ++ ((at_ q 1).kids.map nmErr ++ es.drop 2)
  | 5 => es
  | 6 => es
  | _ => (at_ q 0).kids.map nmErr ++ (((q.take (q.length - 1)).drop 1).flatMap agErrs ++ es.drop (q.length - 1))
mutual
/-- The first error of a tree. -/
def pErr : T → Er
  | .mk k s n l p => if pForm (.mk k s n l p) then firsts (pErrOf (pKind (at_ l 0).s) (l.drop 1) ((pErrs l).drop 1)) else (12, p)
def pErrs : List T → List Er
  | [] => []
  | t :: l => pErr t :: pErrs l
end
theorem pErrs_map : ∀ l : List T, pErrs l = l.map pErr
  | [] => by simp [pErrs]
  | p :: l => by simp [pErrs, pErrs_map l]
theorem orE_assoc (a b c : Er) : orE (orE a b) c = orE a (orE b c) := by
  unfold orE
  cases h1 : a.1 == 0 <;> cases h2 : b.1 == 0 <;> cases h3 : c.1 == 0 <;> simp [h1, h2, h3]
theorem orE_zero (a : Er) : orE a (0, 0) = a := by simp [orE]
theorem orE_fst (a b : Er) : (orE a b).1 = 0 ↔ a.1 = 0 ∧ b.1 = 0 := by
  unfold orE
  cases h1 : a.1 == 0 <;> cases h2 : b.1 == 0 <;> simp_all
theorem orE_skip (a y : Er) : orE a (orE (0, 0) y) = orE a y := by
  cases h : y.1 == 0 <;> simp [orE, h]
theorem foldl_orE : ∀ (l : List Er) (a : Er), l.foldl orE a = orE a (firsts l)
  | [], a => by simp [firsts, orE_zero]
  | e :: l, a => by
    unfold firsts
    rw [List.foldl_cons, foldl_orE l, List.foldl_cons, foldl_orE l (orE (0, 0) e), orE_assoc, orE_assoc]
    rw [orE_skip]
theorem firsts_zero : ∀ l : List Er, (firsts l).1 = 0 ↔ ∀ e ∈ l, e.1 = 0
  | [] => by simp [firsts]
  | e :: l => by
    have : firsts (e :: l) = orE (orE (0, 0) e) (firsts l) := by
      unfold firsts
      rw [List.foldl_cons, foldl_orE]
      rfl
    rw [this, orE_fst, orE_fst, firsts_zero l]
    simp
theorem orE_firsts (a : Er) (e : Er) (l : List Er) : orE (orE a e) (firsts l) = orE a (firsts (e :: l)) := by
  rw [← foldl_orE, ← foldl_orE]
  rfl
theorem firsts_append (a : Er) (l m : List Er) : orE (orE a (firsts l)) (firsts m) = orE a (firsts (l ++ m)) := by
  rw [← foldl_orE, ← foldl_orE, ← foldl_orE, List.foldl_append]
/-- P9.1: what a text is read as. -/
abbrev PRes := Pl × Int × Nat
def pFrom (t : T) : PRes := if (pErr t).1 == 0 then (if 600 < (printS (pTree (pPlan t))).length then (pZero, 3, 0) else (pPlan t, 0, 0)) else (pZero, (pErr t).1, (pErr t).2)
def pRead (s : By) : PRes := if (sxRead s).2.1 == 0 then pFrom (sxRead s).1 else (pZero, (sxRead s).2.1, (sxRead s).2.2)
def pPrint (p : Pl) : By := if (printS (pTree p)).length ≤ 600 ∧ (pTree p).deep ≤ 12 then printS (pTree p) else []
mutual
def Pl.size : Pl → Nat
  | .mk _ _ _ _ _ _ _ l => Pl.sizes l + 1
def Pl.sizes : List Pl → Nat
  | [] => 0
  | p :: l => p.size + Pl.sizes l
end
theorem Pl.sizes_sum : ∀ l : List Pl, Pl.sizes l = (l.map Pl.size).sum
  | [] => by simp [Pl.sizes]
  | p :: l => by simp [Pl.sizes, Pl.sizes_sum l]

/-- An expression as Read makes it. -/
structure GoodE (e : T) : Prop where
  right : xRight e = true
  text : e.every exprB = true
  fair : e.every fairB = true
  back : xRead (xTree e) = (e, 0, 0)
def GoodA (a : Ag) : Prop := xName a.1 = true ∧ ((a.2.1 = bCount ∧ a.2.2 = []) ∨ ((a.2.1 = bSum ∨ a.2.1 = bMin ∨ a.2.1 = bMax) ∧ xName a.2.2 = true))
def Nms (l : List By) : Prop := ∀ s ∈ l, xName s = true
def goodHead (k : Int) (nm : By) (es : List T) (cs lf rt : List By) (ag : List Ag) (nk : Nat) : Prop :=
  (k = 1 ∧ xName nm = true ∧ es = [] ∧ cs = [] ∧ lf = [] ∧ rt = [] ∧ ag = [] ∧ nk = 0) ∨
  (k = 2 ∧ nm = [] ∧ (∃ e, es = [e] ∧ GoodE e) ∧ cs = [] ∧ lf = [] ∧ rt = [] ∧ ag = [] ∧ nk = 1) ∨
  (k = 3 ∧ nm = [] ∧ (∀ e ∈ es, GoodE e) ∧ es.length = cs.length ∧ 1 ≤ cs.length ∧ Nms cs ∧ lf = [] ∧ rt = [] ∧ ag = [] ∧ nk = 1) ∨
  (k = 4 ∧ nm = [] ∧ es = [] ∧ cs = [] ∧ Nms lf ∧ Nms rt ∧ ag = [] ∧ nk = 2) ∨
  (k = 5 ∧ nm = [] ∧ es = [] ∧ cs = [] ∧ lf = [] ∧ rt = [] ∧ ag = [] ∧ nk = 2) ∨
  (k = 6 ∧ nm = [] ∧ es = [] ∧ cs = [] ∧ lf = [] ∧ rt = [] ∧ ag = [] ∧ nk = 1) ∨
  (k = 7 ∧ nm = [] ∧ es = [] ∧ cs = [] ∧ Nms lf ∧ rt = [] ∧ (∀ a ∈ ag, GoodA a) ∧ nk = 1)
mutual
/-- A plan as Read makes it. -/
def Pl.good : Pl → Prop
  | .mk k nm es cs lf rt ag l => goodHead k nm es cs lf rt ag l.length ∧ Pl.goods l
def Pl.goods : List Pl → Prop
  | [] => True
  | p :: l => p.good ∧ Pl.goods l
end
theorem Pl.goods_all : ∀ l : List Pl, Pl.goods l ↔ ∀ p ∈ l, p.good
  | [] => by simp [Pl.goods]
  | p :: l => by simp [Pl.goods, Pl.goods_all l]
end Go.Proofs.YtojbahjebfcmgaaGreatDoor

namespace Go.Proofs.YtojbahjebfcmgaaGreatDoor
open Go.RowKit
set_option linter.unusedVariables false

theorem strip_kind (t : T) : t.strip.kind = t.kind := by cases t; rw [T.strip_mk]; rfl
theorem strip_s (t : T) : t.strip.s = t.s := by cases t; rw [T.strip_mk]; rfl
theorem strip_kids (t : T) : t.strip.kids = t.kids.map T.strip := by cases t; rw [T.strip_mk]; rfl
mutual
theorem strip_deep : ∀ t : T, t.strip.deep = t.deep
  | .mk k s n l p => by rw [T.strip, T.deep, T.deep, strip_deeps l]
theorem strip_deeps : ∀ l : List T, T.deeps (T.strips l) = T.deeps l
  | [] => by rw [T.strips]
  | t :: l => by rw [T.strips, T.deeps, T.deeps, strip_deep t, strip_deeps l]
end
mutual
theorem strip_size : ∀ t : T, t.strip.size = t.size
  | .mk k s n l p => by rw [T.strip, T.size, T.size, strip_sizes l]
theorem strip_sizes : ∀ l : List T, T.sizes (T.strips l) = T.sizes l
  | [] => by rw [T.strips]
  | t :: l => by rw [T.strips, T.sizes, T.sizes, strip_size t, strip_sizes l]
end
theorem leaf_strip (k : Int) (s : By) (n : Int) (l : List T) : fineLeaf k s n (T.strips l) = fineLeaf k s n l := by
  unfold fineLeaf
  rw [T.strips_map, List.isEmpty_map]
mutual
theorem strip_fine : ∀ t : T, t.strip.fine = t.fine
  | .mk k s n l p => by rw [T.strip, T.fine, T.fine, strip_fines l, leaf_strip]
theorem strip_fines : ∀ l : List T, T.fines (T.strips l) = T.fines l
  | [] => by rw [T.strips]
  | t :: l => by rw [T.strips, T.fines, T.fines, strip_fine t, strip_fines l]
end
mutual
theorem strip_print : ∀ t : T, printS t.strip = printS t
  | .mk k s n l p => by rw [T.strip, printS, printS, strip_prints l true]
theorem strip_prints : ∀ (l : List T) (b : Bool), printL b (T.strips l) = printL b l
  | [], b => by rw [T.strips]
  | t :: l, b => by rw [T.strips, printL, printL, strip_print t, strip_prints l false]
end
theorem xReads_like (s : By) : ∀ (rs rs' : List XRes) (done : List T), rs.map (fun r => (r.1, r.2.1)) = rs'.map (fun r => (r.1, r.2.1)) → (xReads s done rs).1 = (xReads s done rs').1 ∧ (xReads s done rs).2.1 = (xReads s done rs').2.1
  | [], [], done, _ => ⟨rfl, rfl⟩
  | [], r' :: rs', done, h => by simp at h
  | r :: rs, [], done, h => by simp at h
  | r :: rs, r' :: rs', done, h => by
    simp only [List.map_cons, List.cons.injEq, Prod.mk.injEq] at h
    obtain ⟨⟨h1, h2⟩, h3⟩ := h
    unfold xReads
    rw [h1, h2]
    split
    · exact xReads_like s rs rs' _ h3
    · exact ⟨rfl, rfl⟩
mutual
theorem xRead_strip : ∀ t : T, (xRead t.strip).1 = (xRead t).1 ∧ (xRead t.strip).2.1 = (xRead t).2.1
  | .mk k s n l p => by
    have hl := xRead_strips l
    by_cases k1 : k = 1
    · subst k1
      rw [T.strip_mk, xRead_open2, xRead_open2]
      cases l with
      | nil => exact ⟨rfl, rfl⟩
      | cons h q =>
        simp only [List.map_cons, strip_kind, strip_s, List.length_map]
        split
        · split
          · have hq : ∀ t ∈ q, (xRead t.strip).1 = (xRead t).1 ∧ (xRead t.strip).2.1 = (xRead t).2.1 := fun t ht => hl t (List.mem_cons_of_mem _ ht)
            refine xReads_like h.s _ _ [] ?_
            rw [List.map_map, List.map_map, List.map_map]
            refine List.map_congr_left fun t ht => ?_
            have := hq t ht
            simp [this.1, this.2]
          · exact ⟨rfl, rfl⟩
        · exact ⟨rfl, rfl⟩
    · rw [T.strip_mk, xRead_other s n _ 0 k1, xRead_other s n l p k1]
      split
      · split
        · exact ⟨rfl, rfl⟩
        · exact ⟨rfl, rfl⟩
      split
      · exact ⟨rfl, rfl⟩
      split <;> exact ⟨rfl, rfl⟩
theorem xRead_strips : ∀ l : List T, ∀ t ∈ l, (xRead t.strip).1 = (xRead t).1 ∧ (xRead t.strip).2.1 = (xRead t).2.1
  | [] => fun t ht => by cases ht
  | a :: l => by
    intro t ht
    rcases List.mem_cons.1 ht with h1 | h1
    · rw [h1]; exact xRead_strip a
    · exact xRead_strips l t h1
end
theorem at_strip (l : List T) (i : Nat) : at_ (l.map T.strip) i = (at_ l i).strip := by
  unfold at_
  rw [List.getD_eq_getElem?_getD, List.getD_eq_getElem?_getD, List.getElem?_map]
  cases l[i]? with
  | none => simp [sxZero, T.strip_mk]
  | some t => rfl
theorem isAtom_strip (t : T) : isAtomT t.strip = isAtomT t := by unfold isAtomT; rw [strip_kind]
theorem isNms_strip (t : T) : isNmsT t.strip = isNmsT t := by
  unfold isNmsT
  rw [strip_kind, strip_kids, List.all_map]
  congr 2
  funext x
  exact isAtom_strip x
theorem isCol_strip (t : T) : isColT t.strip = isColT t := by
  unfold isColT
  rw [strip_kind, strip_kids, List.length_map, at_strip, isAtom_strip]
theorem isAgg_strip (t : T) : isAggT t.strip = isAggT t := by
  unfold isAggT
  rw [isNms_strip, strip_kids, List.length_map]
theorem all_strip {f : T → Bool} (hf : ∀ t : T, f t.strip = f t) (l : List T) : (l.map T.strip).all f = l.all f := by
  rw [List.all_map]
  congr 1
  funext x
  exact hf x
theorem formOf_strip (k : Nat) (q : List T) : pFormOf k (q.map T.strip) = pFormOf k q := by
  unfold pFormOf
  split <;> simp only [List.length_map, at_strip, isAtom_strip, isNms_strip, ← List.map_take, ← List.map_drop, all_strip isCol_strip, all_strip isNms_strip, all_strip isAgg_strip]
theorem form_strip (t : T) : pForm t.strip = pForm t := by
  unfold pForm
  rw [strip_kind, strip_kids, List.length_map, at_strip, isAtom_strip, strip_s, ← List.map_drop, formOf_strip]
theorem colN_strip (t : T) : colN t.strip = colN t := by unfold colN; rw [strip_kids, at_strip, strip_s]
theorem colE_strip (t : T) : colE t.strip = colE t := by unfold colE; rw [strip_kids, at_strip, (xRead_strip _).1]
theorem agOf_strip (t : T) : agOf t.strip = agOf t := by unfold agOf; rw [strip_kids, at_strip, at_strip, at_strip, strip_s, strip_s, strip_s, List.length_map]
theorem map_strip {α : Type} {f : T → α} (hf : ∀ t : T, f t.strip = f t) (l : List T) : (l.map T.strip).map f = l.map f := by
  rw [List.map_map]
  exact List.map_congr_left fun t _ => hf t
theorem make_strip (k : Nat) (q : List T) (ps : List Pl) : pMake k (q.map T.strip) ps = pMake k q ps := by
  unfold pMake
  split <;> simp only [List.length_map, at_strip, strip_s, strip_kids, (xRead_strip _).1, ← List.map_take, ← List.map_drop, map_strip colE_strip, map_strip colN_strip, map_strip agOf_strip, map_strip strip_s]
mutual
theorem plan_strip : ∀ t : T, pPlan t.strip = pPlan t
  | .mk k s n l p => by
    have hl := plan_strips l
    have hf := form_strip (.mk k s n l p)
    rw [T.strip, pPlan, pPlan, hl]
    rw [T.strip] at hf
    rw [hf]
    split
    · rw [T.strips_map, at_strip, strip_s, ← List.map_drop, make_strip]
    · rfl
theorem plan_strips : ∀ l : List T, pPlans (T.strips l) = pPlans l
  | [] => by rw [T.strips]
  | t :: l => by rw [T.strips, pPlans, pPlans, plan_strip t, plan_strips l]
end
theorem firsts_codes : ∀ (l l' : List Er), l.map (·.1) = l'.map (·.1) → (firsts l).1 = (firsts l').1 := by
  have key : ∀ (l l' : List Er) (a a' : Er), a.1 = a'.1 → l.map (·.1) = l'.map (·.1) → (l.foldl orE a).1 = (l'.foldl orE a').1 := by
    intro l
    induction l with
    | nil =>
      intro l' a a' ha h
      cases l' with
      | nil => exact ha
      | cons e l' => simp at h
    | cons e l ih =>
      intro l' a a' ha h
      cases l' with
      | nil => simp at h
      | cons e' l' =>
        simp only [List.map_cons, List.cons.injEq] at h
        rw [List.foldl_cons, List.foldl_cons]
        refine ih l' _ _ ?_ h.2
        unfold orE
        rw [ha, h.1]
        split
        · exact h.1
        · exact ha
  intro l l' h
  exact key l l' _ _ rfl h
theorem nmErr_strip (t : T) : (nmErr t.strip).1 = (nmErr t).1 := by
  unfold nmErr
  rw [strip_s]
  split <;> rfl
theorem exErr_strip (t : T) : (exErr t.strip).1 = (exErr t).1 := (xRead_strip t).2
theorem colErrs_strip (t : T) : (colErrs t.strip).map (·.1) = (colErrs t).map (·.1) := by
  unfold colErrs
  simp only [List.map_cons, List.map_nil, strip_kids, at_strip, nmErr_strip, exErr_strip]
theorem agErrs_strip (t : T) : (agErrs t.strip).map (·.1) = (agErrs t).map (·.1) := by
  unfold agErrs
  simp only [List.map_cons, List.map_nil, strip_kids, at_strip, nmErr_strip, strip_s, List.length_map]
  congr 1
  congr 1
  · split <;> rfl
  · congr 1
    split
    · exact nmErr_strip _
    · rfl
theorem flatMap_codes {f : T → List Er} (hf : ∀ t : T, (f t.strip).map (·.1) = (f t).map (·.1)) : ∀ l : List T, ((l.map T.strip).flatMap f).map (·.1) = (l.flatMap f).map (·.1)
  | [] => rfl
  | t :: l => by
    simp only [List.map_cons, List.flatMap_cons, List.map_append, hf t, flatMap_codes hf l]
theorem map_codes {f : T → Er} (hf : ∀ t : T, (f t.strip).1 = (f t).1) (l : List T) : ((l.map T.strip).map f).map (·.1) = (l.map f).map (·.1) := by
  rw [List.map_map, List.map_map, List.map_map]
  exact List.map_congr_left fun t _ => hf t
theorem errOf_strip (k : Nat) (q : List T) (es es' : List Er) (h : es'.map (·.1) = es.map (·.1)) : (pErrOf k (q.map T.strip) es').map (·.1) = (pErrOf k q es).map (·.1) := by
  unfold pErrOf
  split <;> simp only [List.map_cons, List.map_nil, List.map_append, List.length_map, at_strip, strip_kids, nmErr_strip, exErr_strip, ← List.map_take, ← List.map_drop, flatMap_codes colErrs_strip, flatMap_codes agErrs_strip, map_codes nmErr_strip, h] <;> (try rw [List.map_drop, List.map_drop, h])
mutual
theorem err_strip : ∀ t : T, (pErr t.strip).1 = (pErr t).1
  | .mk k s n l p => by
    have hl := err_strips l
    have hf := form_strip (.mk k s n l p)
    rw [T.strip, pErr, pErr]
    rw [T.strip] at hf
    rw [hf]
    split
    · rw [T.strips_map, at_strip, strip_s, ← List.map_drop]
      refine firsts_codes _ _ (errOf_strip _ _ _ _ ?_)
      rw [List.map_drop, List.map_drop, ← T.strips_map, hl]
    · rfl
theorem err_strips : ∀ l : List T, (pErrs (T.strips l)).map (·.1) = (pErrs l).map (·.1)
  | [] => by rw [T.strips]
  | t :: l => by rw [T.strips, pErrs, pErrs, List.map_cons, List.map_cons, err_strip t, err_strips l]
end
/-- A tree of the form of a plan, by its head and the rest. -/
theorem plan_open (a : T) (q : List T) (hf : pForm (pOpen (a :: q)) = true) : pPlan (pOpen (a :: q)) = pMake (pKind a.s) q (q.map pPlan) := by
  unfold pOpen at hf ⊢
  rw [pPlan, if_pos hf, pPlans_map]
  rfl
theorem err_open (a : T) (q : List T) (hf : pForm (pOpen (a :: q)) = true) : pErr (pOpen (a :: q)) = firsts (pErrOf (pKind a.s) q (q.map pErr)) := by
  unfold pOpen at hf ⊢
  rw [pErr, if_pos hf, pErrs_map]
  rfl
theorem form_open (w : By) (q : List T) (hq : 1 ≤ q.length) : pForm (pOpen (pAtom w :: q)) = pFormOf (pKind w) q := by
  unfold pForm pOpen
  have h1 : (2 ≤ (T.mk 1 [] 0 (pAtom w :: q) 0).kids.length) := by simp [T.kids]; omega
  rw [decide_eq_true h1]
  rfl
theorem atom_fine {s : By} (h : s ≠ []) (hl : ∀ c ∈ s, sxLetter c = true) (hn : s.length ≤ 1000) : (pAtom s).fine = true := by
  unfold pAtom
  rw [T.fine]
  have h1 : s.isEmpty = false := by cases s with | nil => exact absurd rfl h | cons a b => rfl
  have h2 : s.all sxLetter = true := List.all_eq_true.2 hl
  unfold fineLeaf
  rw [h1, h2, decide_eq_true hn]
  rfl
theorem name_fine {s : By} (h : xName s = true) : (pAtom s).fine = true ∧ s ≠ [] := by
  have hl := name_len h
  have h0 : s ≠ [] := by rintro rfl; simp at hl
  refine ⟨atom_fine h0 (fun c hc => ?_) (by omega), h0⟩
  unfold xName nameV at h
  simp only [Bool.and_eq_true, List.all_eq_true] at h
  exact h.2.1 c (by simpa [bstr] using hc)
theorem open_fine {l : List T} (h : ∀ t ∈ l, t.fine = true) : (pOpen l).fine = true := by
  unfold pOpen
  rw [T.fine, fines_all, List.all_eq_true.2 h]
  rfl
theorem names_fine {l : List By} (h : Nms l) : (pNames l).fine = true := open_fine fun t ht => by
  obtain ⟨s, hs, rfl⟩ := List.mem_map.1 ht
  exact (name_fine (h s hs)).1
theorem op_fine {s : By} (h : xTakes s ≠ 0) : (pAtom s).fine = true := by
  cases hi : s == bIf
  · rcases op_cases (takes_12 h hi).1 with h1 | h1 | h1 | h1 | h1 | h1 | h1 | h1 | h1 | h1 | h1 <;> subst h1 <;> decide +kernel
  · have := beq_iff_eq.1 hi
    subst this
    decide +kernel
mutual
theorem xTree_fine : ∀ e : T, xRight e = true → e.every exprB = true → e.every fairB = true → (xTree e).fine = true
  | .mk k s n l p, hr, he, hf => by
    have hl := xTrees_fine l
    rw [xRight, xRights_all, Bool.and_eq_true, List.all_eq_true] at hr
    rw [T.every, T.everys_all, Bool.and_eq_true, List.all_eq_true] at he hf
    obtain ⟨hfo, hrs⟩ := hr
    obtain ⟨he1, hes⟩ := he
    obtain ⟨hf1, hfs⟩ := hf
    obtain ⟨hn64, hs64⟩ := fairB_of hf1
    simp only [Bool.not_eq_true', xForeign, T.kind, T.s, T.n, T.kids] at hfo
    by_cases k1 : k = 1
    · subst k1
      simp only [beq_self_eq_true, if_true, Bool.or_eq_false_iff, Bool.not_eq_false'] at hfo
      have e : xTree (.mk 1 s n l p) = pAtom s := by simp [xTree, pAtom]
      rw [e]
      exact (name_fine hfo.1.1).1
    have k1' : (k == 1) = false := beq_eq_false_iff_ne.2 k1
    by_cases k2 : k = 2
    · subst k2
      have e : xTree (.mk 2 s n l p) = .mk 3 [] n [] 0 := by simp [xTree]
      rw [e, T.fine]
      unfold i64R at hn64
      unfold fineLeaf
      simp [hn64]
    have k2' : (k == 2) = false := beq_eq_false_iff_ne.2 k2
    by_cases k3 : k = 3
    · subst k3
      have e : xTree (.mk 3 s n l p) = .mk 4 s 0 [] 0 := by simp [xTree]
      rw [e, T.fine]
      have he2 : s.length ≤ 40 := by
        unfold exprB at he1
        rw [show (T.mk 3 s n l p).kind = 3 from rfl, show (!((3 : Int) == 3)) = false from rfl, Bool.false_or] at he1
        exact of_decide_eq_true he1
      unfold fineLeaf
      simp [he2]
    have k3' : (k == 3) = false := beq_eq_false_iff_ne.2 k3
    by_cases k4 : k = 4
    · subst k4
      simp only [k1', k2', k3', Bool.false_eq_true, if_false, beq_self_eq_true, if_true, Bool.or_eq_false_iff, Bool.not_eq_false', beq_iff_eq, beq_eq_false_iff_ne] at hfo
      obtain ⟨⟨ht0, _⟩, _⟩ := hfo
      have e : xTree (.mk 4 s n l p) = pOpen (pAtom s :: l.map xTree) := by rw [xTree, xTrees_map]; rfl
      rw [e]
      refine open_fine fun t ht => ?_
      rcases List.mem_cons.1 ht with rfl | ht
      · exact op_fine ht0
      · obtain ⟨u, hu, rfl⟩ := List.mem_map.1 ht
        exact hl u hu (hrs u hu) (hes u hu) (hfs u hu)
    · simp [k1', k2', k3', k4] at hfo
theorem xTrees_fine : ∀ l : List T, ∀ e ∈ l, xRight e = true → e.every exprB = true → e.every fairB = true → (xTree e).fine = true
  | [] => fun e he => by cases he
  | a :: l => by
    intro e he
    rcases List.mem_cons.1 he with h1 | h1
    · rw [h1]; exact xTree_fine a
    · exact xTrees_fine l e h1
end
theorem GoodE.tree {e : T} (h : GoodE e) : (xTree e).fine = true := xTree_fine e h.right h.text h.fair
theorem GoodE.err {e : T} (h : GoodE e) : exErr (xTree e) = (0, 0) := by unfold exErr; rw [h.back]
theorem nm_ok {s : By} (h : xName s = true) : nmErr (pAtom s) = (0, 0) := by
  unfold nmErr
  rw [show (pAtom s).s = s from rfl, if_pos h]
theorem names_ok {l : List By} (h : Nms l) : ∀ e ∈ (l.map pAtom).map nmErr, e.1 = 0 := by
  intro e he
  obtain ⟨t, ht, rfl⟩ := List.mem_map.1 he
  obtain ⟨s, hs, rfl⟩ := List.mem_map.1 ht
  rw [nm_ok (h s hs)]
theorem names_back (l : List By) : (pNames l).kids.map T.s = l := by
  show (l.map pAtom).map T.s = l
  rw [List.map_map]
  have : (T.s ∘ pAtom) = id := rfl
  rw [this, List.map_id]
theorem names_isNms (l : List By) : isNmsT (pNames l) = true := by
  unfold isNmsT
  show ((1 : Int) == 1 && (l.map pAtom).all isAtomT) = true
  rw [List.all_map]
  have : (isAtomT ∘ pAtom) = fun _ => true := rfl
  rw [this]
  simp
theorem agg_cases {a : Ag} (h : GoodA a) : (a.2.1 = bCount ∧ a.2.2 = [] ∧ agTree a = pOpen [pAtom a.1, pAtom bCount]) ∨ ((a.2.1 = bSum ∨ a.2.1 = bMin ∨ a.2.1 = bMax) ∧ xName a.2.2 = true ∧ agTree a = pOpen [pAtom a.1, pAtom a.2.1, pAtom a.2.2]) := by
  rcases h.2 with ⟨h1, h2⟩ | ⟨h1, h2⟩
  · left
    refine ⟨h1, h2, ?_⟩
    unfold agTree
    rw [h1, h2]
    rfl
  · right
    refine ⟨h1, h2, ?_⟩
    have h0 := (name_fine h2).2
    have : a.2.2.isEmpty = false := by cases h3 : a.2.2 with | nil => exact absurd h3 h0 | cons x y => rfl
    unfold agTree
    rw [this]
    rfl
theorem agg_back {a : Ag} (h : GoodA a) : isAggT (agTree a) = true ∧ agOf (agTree a) = a ∧ (∀ e ∈ agErrs (agTree a), e.1 = 0) ∧ (agTree a).fine = true := by
  obtain ⟨n, f, c⟩ := a
  have hn : nmErr (pAtom n) = (0, 0) := nm_ok h.1
  have hnf := (name_fine h.1).1
  simp only at hn hnf
  rcases agg_cases h with ⟨h1, h2, h3⟩ | ⟨h1, h2, h3⟩
  · simp only at h1 h2 h3
    subst h1; subst h2
    rw [h3]
    refine ⟨rfl, rfl, ?_, open_fine ?_⟩
    · have : agErrs (pOpen [pAtom n, pAtom bCount]) = [nmErr (pAtom n), (0, 0), (0, 0)] := rfl
      rw [this, hn]
      simp
    · intro t ht
      simp at ht
      rcases ht with rfl | rfl
      · exact hnf
      · decide +kernel
  · simp only at h1 h2 h3
    rw [h3]
    have hc := nm_ok h2
    refine ⟨rfl, rfl, ?_, open_fine ?_⟩
    · have : agErrs (pOpen [pAtom n, pAtom f, pAtom c]) = [nmErr (pAtom n), if isFun f true then (0, 0) else (12, 0), nmErr (pAtom c)] := rfl
      rw [this, hn, hc]
      rcases h1 with rfl | rfl | rfl <;> simp [isFun]
    · intro t ht
      simp at ht
      rcases ht with rfl | rfl | rfl
      · exact hnf
      · rcases h1 with rfl | rfl | rfl <;> decide +kernel
      · exact (name_fine h2).1
theorem zip_cols : ∀ (cs : List By) (es : List T), es.length = cs.length → (∀ e ∈ es, GoodE e) → Nms cs →
    (List.zipWith colTree cs es).all isColT = true ∧ (List.zipWith colTree cs es).map colE = es ∧ (List.zipWith colTree cs es).map colN = cs ∧ (∀ e ∈ (List.zipWith colTree cs es).flatMap colErrs, e.1 = 0) ∧ (∀ t ∈ List.zipWith colTree cs es, t.fine = true) ∧ (List.zipWith colTree cs es).length = cs.length
  | [], [], _, _, _ => by simp
  | [], _ :: _, h, _, _ => by simp at h
  | _ :: _, [], h, _, _ => by simp at h
  | c :: cs, e :: es, h, he, hc => by
    obtain ⟨h1, h2, h3, h4, h5, h6⟩ := zip_cols cs es (by simpa using h) (fun x hx => he x (List.mem_cons_of_mem _ hx)) (fun x hx => hc x (List.mem_cons_of_mem _ hx))
    have hge := he e (List.mem_cons_self ..)
    have hgc := hc c (List.mem_cons_self ..)
    simp only [List.zipWith_cons_cons, List.all_cons, List.map_cons, List.flatMap_cons, h1, h2, h3, List.length_cons, h6, Bool.and_true]
    refine ⟨rfl, ?_, ?_, ?_, ?_, by trivial⟩
    · congr 1
      show (xRead (xTree e)).1 = e
      rw [hge.back]
    · rfl
    · intro x hx
      rcases List.mem_append.1 hx with hx | hx
      · have : colErrs (colTree c e) = [nmErr (pAtom c), exErr (xTree e)] := rfl
        rw [this, nm_ok hgc, hge.err] at hx
        simp at hx
        rw [hx]
      · exact h4 x hx
    · intro t ht
      rcases List.mem_cons.1 ht with rfl | ht
      · refine open_fine fun t ht => ?_
        simp at ht
        rcases ht with rfl | rfl
        · exact (name_fine hgc).1
        · exact hge.tree
      · exact h5 t ht
def BackP (p : Pl) : Prop := p.good → pPlan (pTree p) = p ∧ (pErr (pTree p)).1 = 0 ∧ (pTree p).fine = true
theorem one_ofP {α : Type} {l : List α} (h : l.length = 1) : ∃ a, l = [a] := by
  match l, h with
  | [a], _ => exact ⟨a, rfl⟩
theorem two_ofP {α : Type} {l : List α} (h : l.length = 2) : ∃ a b, l = [a, b] := by
  match l, h with
  | [a, b], _ => exact ⟨a, b, rfl⟩
theorem word_fine : ∀ w ∈ [bTable, bFilter, bProject, bJoin, bUnion, bDistinct, bGroup], (pAtom w).fine = true := by decide +kernel
theorem backP_step (k : Int) (nm : By) (es : List T) (cs lf rt : List By) (ag : List Ag) (l : List Pl) (hl : ∀ p ∈ l, BackP p) : BackP (.mk k nm es cs lf rt ag l) := by
  intro hg
  rw [Pl.good, Pl.goods_all] at hg
  obtain ⟨hg, hgl⟩ := hg
  have hk : ∀ p ∈ l, pPlan (pTree p) = p ∧ (pErr (pTree p)).1 = 0 ∧ (pTree p).fine = true := fun p hp => hl p hp (hgl p hp)
  rw [pTree, pTrees_map]
  rcases hg with ⟨rfl, h1, rfl, rfl, rfl, rfl, rfl, h2⟩ | ⟨rfl, rfl, ⟨e, rfl, he⟩, rfl, rfl, rfl, rfl, h2⟩ | ⟨rfl, rfl, he, hlen, h1, hc, rfl, rfl, rfl, h2⟩ | ⟨rfl, rfl, rfl, rfl, h3, h4, rfl, h2⟩ | ⟨rfl, rfl, rfl, rfl, rfl, rfl, rfl, h2⟩ | ⟨rfl, rfl, rfl, rfl, rfl, rfl, rfl, h2⟩ | ⟨rfl, rfl, rfl, rfl, h3, rfl, h4, h2⟩
  · have : l = [] := List.eq_nil_of_length_eq_zero h2
    subst this
    have e : pOpen (pHead 1 nm [] [] [] [] [] ++ ([] : List Pl).map pTree) = pOpen (pAtom bTable :: [pAtom nm]) := rfl
    have hf : pForm (pOpen (pAtom bTable :: [pAtom nm])) = true := rfl
    rw [e, plan_open _ _ hf, err_open _ _ hf]
    refine ⟨rfl, ?_, open_fine ?_⟩
    · rw [firsts_zero]
      intro x hx
      have : pErrOf (pKind (pAtom bTable).s) [pAtom nm] ([pAtom nm].map pErr) = [nmErr (pAtom nm)] := rfl
      rw [this, nm_ok h1] at hx
      simp at hx
      rw [hx]
    · intro t ht
      simp at ht
      rcases ht with rfl | rfl
      · exact word_fine _ (by simp)
      · exact (name_fine h1).1
  · obtain ⟨q, rfl⟩ := one_ofP h2
    obtain ⟨k1, k2, k3⟩ := hk q (by simp)
    have e' : pOpen (pHead 2 [] [e] [] [] [] [] ++ [q].map pTree) = pOpen (pAtom bFilter :: [xTree e, pTree q]) := rfl
    have hf : pForm (pOpen (pAtom bFilter :: [xTree e, pTree q])) = true := rfl
    rw [e', plan_open _ _ hf, err_open _ _ hf]
    refine ⟨?_, ?_, open_fine ?_⟩
    · show Pl.mk 2 [] [(xRead (xTree e)).1] [] [] [] [] [pPlan (pTree q)] = _
      rw [he.back, k1]
    · rw [firsts_zero]
      intro x hx
      have : pErrOf (pKind (pAtom bFilter).s) [xTree e, pTree q] ([xTree e, pTree q].map pErr) = [exErr (xTree e), pErr (pTree q)] := rfl
      rw [this, he.err] at hx
      simp at hx
      rcases hx with rfl | rfl
      · rfl
      · exact k2
    · intro t ht
      simp at ht
      rcases ht with rfl | rfl | rfl
      · exact word_fine _ (by simp)
      · exact he.tree
      · exact k3
  · obtain ⟨q, rfl⟩ := one_ofP h2
    obtain ⟨k1, k2, k3⟩ := hk q (by simp)
    obtain ⟨z1, z2, z3, z4, z5, z6⟩ := zip_cols cs es hlen he hc
    have e' : pOpen (pHead 3 [] es cs [] [] [] ++ [q].map pTree) = pOpen (pAtom bProject :: (List.zipWith colTree cs es ++ [pTree q])) := rfl
    generalize List.zipWith colTree cs es = Z at *
    have ht : (Z ++ [pTree q]).length - 1 = Z.length := by simp
    have hf : pForm (pOpen (pAtom bProject :: (Z ++ [pTree q]))) = true := by
      rw [form_open _ _ (by simp)]
      show (decide (2 ≤ (Z ++ [pTree q]).length) && ((Z ++ [pTree q]).take ((Z ++ [pTree q]).length - 1)).all isColT) = true
      rw [ht, List.take_left, z1, Bool.and_true]
      exact decide_eq_true (by simp; omega)
    rw [e', plan_open _ _ hf, err_open _ _ hf]
    refine ⟨?_, ?_, open_fine ?_⟩
    · show Pl.mk 3 [] (((Z ++ [pTree q]).take ((Z ++ [pTree q]).length - 1)).map colE) (((Z ++ [pTree q]).take ((Z ++ [pTree q]).length - 1)).map colN) [] [] [] (((Z ++ [pTree q]).map pPlan).drop ((Z ++ [pTree q]).length - 1)) = _
      rw [ht, List.take_left, z2, z3, List.map_append, List.drop_left' (by simp), List.map_cons, List.map_nil, k1]
    · rw [firsts_zero]
      show ∀ x ∈ ((Z ++ [pTree q]).take ((Z ++ [pTree q]).length - 1)).flatMap colErrs ++ ((Z ++ [pTree q]).map pErr).drop ((Z ++ [pTree q]).length - 1), x.1 = 0
      rw [ht, List.take_left, List.map_append, List.drop_left' (by simp)]
      intro x hx
      rcases List.mem_append.1 hx with hx | hx
      · exact z4 x hx
      · simp at hx
        rw [hx]
        exact k2
    · intro t ht
      rcases List.mem_cons.1 ht with rfl | ht
      · exact word_fine _ (by simp)
      · rcases List.mem_append.1 ht with ht | ht
        · exact z5 t ht
        · simp at ht
          rw [ht]
          exact k3
  · obtain ⟨q, q', rfl⟩ := two_ofP h2
    obtain ⟨k1, k2, k3⟩ := hk q (by simp)
    obtain ⟨m1, m2, m3⟩ := hk q' (by simp)
    have e' : pOpen (pHead 4 [] [] [] lf rt [] ++ [q, q'].map pTree) = pOpen (pAtom bJoin :: [pNames lf, pNames rt, pTree q, pTree q']) := rfl
    have hf : pForm (pOpen (pAtom bJoin :: [pNames lf, pNames rt, pTree q, pTree q'])) = true := by
      rw [form_open _ _ (by simp)]
      show ((4 : Nat) == 4 && [pNames lf, pNames rt].all isNmsT) = true
      simp [names_isNms]
    rw [e', plan_open _ _ hf, err_open _ _ hf]
    refine ⟨?_, ?_, open_fine ?_⟩
    · show Pl.mk 4 [] [] [] ((pNames lf).kids.map T.s) ((pNames rt).kids.map T.s) [] [pPlan (pTree q), pPlan (pTree q')] = _
      rw [names_back, names_back, k1, m1]
    · rw [firsts_zero]
      show ∀ x ∈ (lf.map pAtom).map nmErr ++ ((rt.map pAtom).map nmErr ++ [pErr (pTree q), pErr (pTree q')]), x.1 = 0
      intro x hx
      rcases List.mem_append.1 hx with hx | hx
      · exact names_ok h3 x hx
      · rcases List.mem_append.1 hx with hx | hx
        · exact names_ok h4 x hx
        · simp at hx
          rcases hx with rfl | rfl
          · exact k2
          · exact m2
    · intro t ht
      simp at ht
      rcases ht with rfl | rfl | rfl | rfl | rfl
      · exact word_fine _ (by simp)
      · exact names_fine h3
      · exact names_fine h4
      · exact k3
      · exact m3
  · obtain ⟨q, q', rfl⟩ := two_ofP h2
    obtain ⟨k1, k2, k3⟩ := hk q (by simp)
    obtain ⟨m1, m2, m3⟩ := hk q' (by simp)
    have e' : pOpen (pHead 5 [] [] [] [] [] [] ++ [q, q'].map pTree) = pOpen (pAtom bUnion :: [pTree q, pTree q']) := rfl
    have hf : pForm (pOpen (pAtom bUnion :: [pTree q, pTree q'])) = true := rfl
    rw [e', plan_open _ _ hf, err_open _ _ hf]
    refine ⟨?_, ?_, open_fine ?_⟩
    · show Pl.mk 5 [] [] [] [] [] [] [pPlan (pTree q), pPlan (pTree q')] = _
      rw [k1, m1]
    · rw [firsts_zero]
      show ∀ x ∈ [pErr (pTree q), pErr (pTree q')], x.1 = 0
      intro x hx
      simp at hx
      rcases hx with rfl | rfl
      · exact k2
      · exact m2
    · intro t ht
      simp at ht
      rcases ht with rfl | rfl | rfl
      · exact word_fine _ (by simp)
      · exact k3
      · exact m3
  · obtain ⟨q, rfl⟩ := one_ofP h2
    obtain ⟨k1, k2, k3⟩ := hk q (by simp)
    have e' : pOpen (pHead 6 [] [] [] [] [] [] ++ [q].map pTree) = pOpen (pAtom bDistinct :: [pTree q]) := rfl
    have hf : pForm (pOpen (pAtom bDistinct :: [pTree q])) = true := rfl
    rw [e', plan_open _ _ hf, err_open _ _ hf]
    refine ⟨?_, ?_, open_fine ?_⟩
    · show Pl.mk 6 [] [] [] [] [] [] [pPlan (pTree q)] = _
      rw [k1]
    · rw [firsts_zero]
      show ∀ x ∈ [pErr (pTree q)], x.1 = 0
      intro x hx
      simp at hx
      rw [hx]
      exact k2
    · intro t ht
      simp at ht
      rcases ht with rfl | rfl
      · exact word_fine _ (by simp)
      · exact k3
  · obtain ⟨q, rfl⟩ := one_ofP h2
    obtain ⟨k1, k2, k3⟩ := hk q (by simp)
    have e' : pOpen (pHead 7 [] [] [] lf [] ag ++ [q].map pTree) = pOpen (pAtom bGroup :: (pNames lf :: (ag.map agTree ++ [pTree q]))) := rfl
    have hall : (ag.map agTree).all isAggT = true := by
      rw [List.all_map, List.all_eq_true]
      exact fun a ha => (agg_back (h4 a ha)).1
    have hmap : (ag.map agTree).map agOf = ag := by
      rw [List.map_map]
      conv => rhs; rw [← List.map_id ag]
      exact List.map_congr_left fun a ha => (agg_back (h4 a ha)).2.1
    have herr : ∀ e ∈ (ag.map agTree).flatMap agErrs, e.1 = 0 := by
      intro e he
      obtain ⟨t, ht, he⟩ := List.mem_flatMap.1 he
      obtain ⟨a, ha, rfl⟩ := List.mem_map.1 ht
      exact (agg_back (h4 a ha)).2.2.1 e he
    have hfin : ∀ t ∈ ag.map agTree, t.fine = true := by
      intro t ht
      obtain ⟨a, ha, rfl⟩ := List.mem_map.1 ht
      exact (agg_back (h4 a ha)).2.2.2
    generalize ag.map agTree = Z at *
    have ht : (pNames lf :: (Z ++ [pTree q])).length - 1 = Z.length + 1 := by simp
    have htk : ((pNames lf :: (Z ++ [pTree q])).take (Z.length + 1)).drop 1 = Z := by rw [List.take_succ_cons, List.take_left]; rfl
    have hf : pForm (pOpen (pAtom bGroup :: (pNames lf :: (Z ++ [pTree q])))) = true := by
      rw [form_open _ _ (by simp)]
      show (decide (2 ≤ (pNames lf :: (Z ++ [pTree q])).length) && isNmsT (pNames lf) && (((pNames lf :: (Z ++ [pTree q])).take ((pNames lf :: (Z ++ [pTree q])).length - 1)).drop 1).all isAggT) = true
      rw [ht, htk, hall, names_isNms, Bool.and_true, Bool.and_true]
      exact decide_eq_true (by simp)
    rw [e', plan_open _ _ hf, err_open _ _ hf]
    refine ⟨?_, ?_, open_fine ?_⟩
    · show Pl.mk 7 [] [] [] ((pNames lf).kids.map T.s) [] ((((pNames lf :: (Z ++ [pTree q])).take ((pNames lf :: (Z ++ [pTree q])).length - 1)).drop 1).map agOf) (((pNames lf :: (Z ++ [pTree q])).map pPlan).drop ((pNames lf :: (Z ++ [pTree q])).length - 1)) = _
      rw [ht, htk, hmap, names_back, List.map_cons, List.drop_succ_cons, List.map_append, List.drop_left' (by simp), List.map_cons, List.map_nil, k1]
    · rw [firsts_zero]
      show ∀ x ∈ (pNames lf).kids.map nmErr ++ ((((pNames lf :: (Z ++ [pTree q])).take ((pNames lf :: (Z ++ [pTree q])).length - 1)).drop 1).flatMap agErrs ++ ((pNames lf :: (Z ++ [pTree q])).map pErr).drop ((pNames lf :: (Z ++ [pTree q])).length - 1)), x.1 = 0
      rw [ht, htk, List.map_cons, List.drop_succ_cons, List.map_append, List.drop_left' (by simp)]
      intro x hx
      rcases List.mem_append.1 hx with hx | hx
      · exact names_ok h3 x hx
      · rcases List.mem_append.1 hx with hx | hx
        · exact herr x hx
        · simp at hx
          rw [hx]
          exact k2
    · intro t ht
      rcases List.mem_cons.1 ht with rfl | ht
      · exact word_fine _ (by simp)
      · rcases List.mem_cons.1 ht with rfl | ht
        · exact names_fine h3
        · rcases List.mem_append.1 ht with ht | ht
          · exact hfin t ht
          · simp at ht
            rw [ht]
            exact k3
mutual
theorem backP : ∀ p : Pl, BackP p
  | .mk k nm es cs lf rt ag l => backP_step k nm es cs lf rt ag l (backPs l)
theorem backPs : ∀ l : List Pl, ∀ p ∈ l, BackP p
  | [] => fun p hp => by cases hp
  | a :: l => by
    intro p hp
    rcases List.mem_cons.1 hp with h1 | h1
    · rw [h1]; exact backP a
    · exact backPs l p h1
end
end Go.Proofs.YtojbahjebfcmgaaGreatDoor

namespace Go.Proofs.YtojbahjebfcmgaaGreatDoor
open Go.RowKit
set_option linter.unusedVariables false

theorem fines_mem : ∀ l : List T, T.fines l = true → ∀ t ∈ l, t.fine = true
  | [], _, t, h => by cases h
  | a :: l, hf, t, h => by
    rw [T.fines, Bool.and_eq_true] at hf
    rcases List.mem_cons.1 h with rfl | h
    · exact hf.1
    · exact fines_mem l hf.2 t h
theorem fine_cases {k : Int} {s : By} {n : Int} {l : List T} {p : Nat} (h : (T.mk k s n l p).fine = true) : (k = 1 ∧ s = [] ∧ n = 0 ∧ ∀ t ∈ l, t.fine = true) ∨ (k = 2 ∧ n = 0 ∧ l = [] ∧ s ≠ []) ∨ (k = 3 ∧ s = [] ∧ l = []) ∨ (k = 4 ∧ n = 0 ∧ l = [] ∧ s.length ≤ 40) := by
  rw [T.fine] at h
  unfold fineLeaf at h
  simp only [Bool.or_eq_true, Bool.and_eq_true, beq_iff_eq, decide_eq_true_eq, List.isEmpty_iff, Bool.not_eq_true', List.isEmpty_eq_false_iff] at h
  rcases h with h | ((h | h) | h)
  · exact .inl ⟨h.1.1.1, h.1.1.2, h.1.2, fines_mem l h.2⟩
  · exact .inr (.inl ⟨h.1.1.1, h.1.2.1, h.2, h.1.1.2.1⟩)
  · exact .inr (.inr (.inl ⟨h.1.1.1, h.1.1.2, h.2⟩))
  · exact .inr (.inr (.inr ⟨h.1.1.1, h.1.2, h.2, h.1.1.2⟩))
theorem atom_strip {t : T} (h : t.fine = true) (ha : t.kind = 2) : t.strip = pAtom t.s ∧ t.s ≠ [] := by
  obtain ⟨k, s, n, l, p⟩ := t
  change k = 2 at ha
  subst ha
  rcases fine_cases h with h1 | h1 | h1 | h1
  · exact absurd h1.1 (by decide)
  · obtain ⟨_, h2, h3, h4⟩ := h1
    subst h2; subst h3
    exact ⟨by rw [T.strip_mk]; rfl, h4⟩
  · exact absurd h1.1 (by decide)
  · exact absurd h1.1 (by decide)
theorem open_strip {t : T} (h : t.fine = true) (ha : t.kind = 1) : t.strip = pOpen (t.kids.map T.strip) ∧ ∀ x ∈ t.kids, x.fine = true := by
  obtain ⟨k, s, n, l, p⟩ := t
  change k = 1 at ha
  subst ha
  rcases fine_cases h with h1 | h1 | h1 | h1
  · obtain ⟨_, h2, h3, h4⟩ := h1
    subst h2; subst h3
    exact ⟨by rw [T.strip_mk]; rfl, h4⟩
  · exact absurd h1.1 (by decide)
  · exact absurd h1.1 (by decide)
  · exact absurd h1.1 (by decide)
mutual
theorem tree_strip : ∀ t : T, t.fine = true → (xRead t).2.1 = 0 → xTree (xRead t).1 = t.strip
  | .mk k s n l p, hf, h => by
    have hl := trees_strip l
    rcases fine_cases hf with ⟨h1, h2, h3, h4⟩ | ⟨h1, h2, h3, _⟩ | ⟨h1, h2, h3⟩ | ⟨h1, h2, h3, _⟩
    · subst h1; subst h2; subst h3
      rw [xRead_open] at h ⊢
      cases l with
      | nil => simp [xBad] at h
      | cons hd q =>
        simp only at h ⊢
        by_cases hk : (hd.kind == 2 && !(xTakes hd.s == 0)) = true
        · rw [if_pos hk] at h ⊢
          by_cases hq : (q.length == xTakes hd.s) = true
          · rw [if_pos hq] at h ⊢
            obtain ⟨h5, h6⟩ := xReads_ok hd.s (q.map xRead) [] h
            rw [h6]
            rw [Bool.and_eq_true, beq_iff_eq] at hk
            have ha := (atom_strip (h4 hd (List.mem_cons_self ..)) hk.1).1
            rw [T.strip_mk, List.map_cons, ha, xTree, xTrees_map, List.nil_append, List.map_map, List.map_map]
            have hm : q.map ((xTree ∘ fun x : XRes => x.1) ∘ xRead) = q.map T.strip := List.map_congr_left fun t ht => hl t (List.mem_cons_of_mem _ ht) (h4 t (List.mem_cons_of_mem _ ht)) (h5 _ (List.mem_map_of_mem ht))
            rw [hm]
            rfl
          · rw [if_neg hq] at h
            simp [xBad] at h
        · rw [if_neg hk] at h
          simp [xBad] at h
    · subst h1; subst h2; subst h3
      rw [xRead_other s 0 [] p (by decide)] at h ⊢
      rw [if_pos (show ((2 : Int) == 2) = true from rfl)] at h ⊢
      by_cases hn : xName s = true
      · rw [if_pos hn, T.strip_mk]; rfl
      · rw [if_neg hn] at h
        simp [xBad] at h
    · subst h1; subst h2; subst h3
      rw [xRead_other [] n [] p (by decide), T.strip_mk]
      rfl
    · subst h1; subst h2; subst h3
      rw [xRead_other s 0 [] p (by decide), T.strip_mk]
      rfl
theorem trees_strip : ∀ l : List T, ∀ t ∈ l, t.fine = true → (xRead t).2.1 = 0 → xTree (xRead t).1 = t.strip
  | [], t, h => by cases h
  | a :: l, t, h => by
    rcases List.mem_cons.1 h with h1 | h1
    · rw [h1]; exact tree_strip a
    · exact trees_strip l t h1
end
theorem nms_strip {t : T} (h : t.fine = true) (ha : isNmsT t = true) : t.strip = pNames (t.kids.map T.s) ∧ ∀ s ∈ t.kids.map T.s, s ≠ [] := by
  unfold isNmsT isAtomT at ha
  rw [Bool.and_eq_true, beq_iff_eq, List.all_eq_true] at ha
  obtain ⟨h1, h2⟩ := open_strip h ha.1
  refine ⟨?_, fun s hs => ?_⟩
  · rw [h1]
    unfold pNames
    rw [List.map_map]
    exact congrArg pOpen (List.map_congr_left fun x hx => (atom_strip (h2 x hx) (by simpa using ha.2 x hx)).1)
  · obtain ⟨x, hx, rfl⟩ := List.mem_map.1 hs
    exact (atom_strip (h2 x hx) (by simpa using ha.2 x hx)).2
theorem two_at {l : List T} (h : l.length = 2) : l = [at_ l 0, at_ l 1] := by
  match l, h with
  | [a, b], _ => rfl
theorem three_at {l : List T} (h : l.length = 3) : l = [at_ l 0, at_ l 1, at_ l 2] := by
  match l, h with
  | [a, b, c], _ => rfl
theorem col_strip {t : T} (h : t.fine = true) (ha : isColT t = true) (he : (exErr (at_ t.kids 1)).1 = 0) : t.strip = colTree (colN t) (colE t) := by
  unfold isColT isAtomT at ha
  simp only [Bool.and_eq_true, beq_iff_eq] at ha
  obtain ⟨h1, h2⟩ := open_strip h ha.1.1
  have hk := two_at ha.1.2
  have m0 : at_ t.kids 0 ∈ t.kids := by rw [hk]; simp
  have m1 : at_ t.kids 1 ∈ t.kids := by rw [hk]; simp
  rw [h1, hk, List.map_cons, List.map_cons, List.map_nil, (atom_strip (h2 _ m0) ha.2).1, ← tree_strip _ (h2 _ m1) he]
  rfl
theorem agg_strip {t : T} (h : t.fine = true) (ha : isAggT t = true) : t.strip = agTree (agOf t) := by
  unfold isAggT at ha
  simp only [Bool.and_eq_true, Bool.or_eq_true, beq_iff_eq] at ha
  obtain ⟨h1, h2⟩ := nms_strip h ha.1
  rw [h1]
  rcases ha.2 with hl | hl
  · have hk := two_at hl
    unfold agTree agOf pNames
    rw [hl]
    rw [hk]
    rfl
  · have hk := three_at hl
    have hne : (at_ t.kids 2).s ≠ [] := h2 _ (by rw [hk]; simp)
    unfold agTree agOf pNames
    rw [hl]
    simp only [beq_self_eq_true, if_true]
    rw [show (at_ t.kids 2).s.isEmpty = false by
      cases hc : (at_ t.kids 2).s with
      | nil => exact absurd hc hne
      | cons _ _ => rfl]
    conv => lhs; rw [hk]
    rfl
theorem nm_name {t : T} (h : (nmErr t).1 = 0) : xName t.s = true := by
  unfold nmErr at h
  split at h
  · assumption
  · cases h
theorem ex_good {t : T} (ht : t.every textB = true) (hf : t.every fairB = true) (h : (exErr t).1 = 0) : GoodE (xRead t).1 := ⟨xRead_right t h, xRead_texts t ht, xRead_fair t hf, (back_tree t h).1⟩
end Go.Proofs.YtojbahjebfcmgaaGreatDoor

namespace Go.Proofs.YtojbahjebfcmgaaGreatDoor
open Go.RowKit
set_option linter.unusedVariables false

theorem pKind_cases (s : By) : (pKind s = 1 ∧ s = bTable) ∨ (pKind s = 2 ∧ s = bFilter) ∨ (pKind s = 3 ∧ s = bProject) ∨ (pKind s = 4 ∧ s = bJoin) ∨ (pKind s = 5 ∧ s = bUnion) ∨ (pKind s = 6 ∧ s = bDistinct) ∨ (pKind s = 7 ∧ s = bGroup) ∨ pKind s = 0 := by
  by_cases h1 : s = bTable
  · exact .inl ⟨by rw [h1]; decide +kernel, h1⟩
  by_cases h2 : s = bFilter
  · exact .inr (.inl ⟨by rw [h2]; decide +kernel, h2⟩)
  by_cases h3 : s = bProject
  · exact .inr (.inr (.inl ⟨by rw [h3]; decide +kernel, h3⟩))
  by_cases h4 : s = bJoin
  · exact .inr (.inr (.inr (.inl ⟨by rw [h4]; decide +kernel, h4⟩)))
  by_cases h5 : s = bUnion
  · exact .inr (.inr (.inr (.inr (.inl ⟨by rw [h5]; decide +kernel, h5⟩))))
  by_cases h6 : s = bDistinct
  · exact .inr (.inr (.inr (.inr (.inr (.inl ⟨by rw [h6]; decide +kernel, h6⟩)))))
  by_cases h7 : s = bGroup
  · exact .inr (.inr (.inr (.inr (.inr (.inr (.inl ⟨by rw [h7]; decide +kernel, h7⟩))))))
  refine .inr (.inr (.inr (.inr (.inr (.inr (.inr ?_))))))
  unfold pKind
  simp [h1, h2, h3, h4, h5, h6, h7]
theorem agg_good {t : T} (h : t.fine = true) (ha : isAggT t = true) (he : ∀ e ∈ agErrs t, e.1 = 0) : GoodA (agOf t) := by
  unfold agErrs at he
  have e0 := he _ (List.mem_cons_self ..)
  have e1 := he _ (List.mem_cons_of_mem _ (List.mem_cons_self ..))
  have e2 := he _ (List.mem_cons_of_mem _ (List.mem_cons_of_mem _ (List.mem_cons_self ..)))
  have hfn : isFun (at_ t.kids 1).s (t.kids.length == 3) = true := by
    cases hc : isFun (at_ t.kids 1).s (t.kids.length == 3)
    · rw [hc] at e1; simp at e1
    · rfl
  refine ⟨nm_name e0, ?_⟩
  unfold agOf
  unfold isFun at hfn
  by_cases h3 : (t.kids.length == 3) = true
  · rw [h3] at hfn e2
    rw [if_pos rfl] at e2
    simp only [h3, if_true]
    refine .inr ⟨?_, nm_name e2⟩
    by_cases hs : ((at_ t.kids 1).s == bSum || (at_ t.kids 1).s == bMin || (at_ t.kids 1).s == bMax) = true
    · simp only [Bool.or_eq_true, beq_iff_eq] at hs
      rcases hs with (hs | hs) | hs
      · exact .inl hs
      · exact .inr (.inl hs)
      · exact .inr (.inr hs)
    · rw [if_neg hs] at hfn
      by_cases hc : ((at_ t.kids 1).s == bCount) = true
      · rw [if_pos hc] at hfn; cases hfn
      · rw [if_neg hc] at hfn; cases hfn
  · have h3' : (t.kids.length == 3) = false := by simpa using h3
    rw [h3'] at hfn
    simp only [h3', Bool.false_eq_true, if_false]
    refine .inl ⟨?_, trivial⟩
    by_cases hs : ((at_ t.kids 1).s == bSum || (at_ t.kids 1).s == bMin || (at_ t.kids 1).s == bMax) = true
    · rw [if_pos hs] at hfn; cases hfn
    · rw [if_neg hs] at hfn
      by_cases hc : ((at_ t.kids 1).s == bCount) = true
      · exact beq_iff_eq.1 hc
      · rw [if_neg hc] at hfn; cases hfn
def FwP (t : T) : Prop := t.fine = true → (pErr t).1 = 0 → pTree (pPlan t) = t.strip ∧ (pPlan t).good
theorem last_ofP {α : Type} {l : List α} (h : 1 ≤ l.length) : ∃ c z, l = c ++ [z] := by
  have hne : l ≠ [] := fun e => by rw [e] at h; simp at h
  exact ⟨l.dropLast, l.getLast hne, (List.dropLast_concat_getLast hne).symm⟩
theorem fwd_step (k : Int) (s : By) (n : Int) (l : List T) (p : Nat) (hl : ∀ x ∈ l, FwP x) : FwP (.mk k s n l p) := by
  intro hfi he
  have hf : pForm (.mk k s n l p) = true := by
    cases hc : pForm (.mk k s n l p) with
    | true => rfl
    | false => rw [pErr, hc] at he; simp at he
  rw [pErr, if_pos hf, pErrs_map, firsts_zero] at he
  rw [pPlan, if_pos hf, pPlans_map]
  have hf2 : k = 1 ∧ 2 ≤ l.length ∧ (at_ l 0).kind = 2 ∧ pFormOf (pKind (at_ l 0).s) (l.drop 1) = true := by
    unfold pForm at hf
    rw [Bool.and_eq_true, Bool.and_eq_true, Bool.and_eq_true, beq_iff_eq, decide_eq_true_eq] at hf
    exact ⟨hf.1.1.1, hf.1.1.2, beq_iff_eq.1 hf.1.2, hf.2⟩
  obtain ⟨rfl, h2, h3, h4⟩ := hf2
  obtain ⟨hst, hfk⟩ := open_strip hfi rfl
  cases l with
  | nil => simp at h2
  | cons a q =>
    rw [hst]
    have ha : a.strip = pAtom a.s := (atom_strip (hfk a (List.mem_cons_self ..)) h3).1
    have hq : ∀ x ∈ q, x.fine = true := fun x hx => hfk x (List.mem_cons_of_mem _ hx)
    have hkid : ∀ x ∈ q, (pErr x).1 = 0 → pTree (pPlan x) = x.strip ∧ (pPlan x).good := fun x hx h => hl x (List.mem_cons_of_mem _ hx) (hq x hx) h
    have hex : ∀ x ∈ q, (exErr x).1 = 0 → GoodE (xRead x).1 ∧ xTree (xRead x).1 = x.strip := fun x hx h => ⟨ex_good (fine_fair x (hq x hx)).2 (fine_fair x (hq x hx)).1 h, tree_strip x (hq x hx) h⟩
    change pTree (pMake (pKind a.s) q (q.map pPlan)) = pOpen (a.strip :: q.map T.strip) ∧ (pMake (pKind a.s) q (q.map pPlan)).good
    change pFormOf (pKind a.s) q = true at h4
    change ∀ e ∈ pErrOf (pKind a.s) q (q.map pErr), e.1 = 0 at he
    rw [ha]
    rcases pKind_cases a.s with ⟨hk, hs⟩ | ⟨hk, hs⟩ | ⟨hk, hs⟩ | ⟨hk, hs⟩ | ⟨hk, hs⟩ | ⟨hk, hs⟩ | ⟨hk, hs⟩ | hk
    · rw [hk] at h4 he ⊢
      rw [hs]
      have h5 : (q.length == 1 && isAtomT (at_ q 0)) = true := h4
      rw [Bool.and_eq_true, beq_iff_eq] at h5
      obtain ⟨y, rfl⟩ := one_ofP h5.1
      have hy := (atom_strip (hq y (List.mem_cons_self ..)) (beq_iff_eq.1 h5.2)).1
      have hn := nm_name (he (nmErr y) (List.mem_cons_self ..))
      exact ⟨by
        show pOpen ([pAtom bTable, pAtom y.s] ++ []) = pOpen (pAtom bTable :: [y.strip])
        rw [hy]
        rfl, .inl ⟨rfl, hn, rfl, rfl, rfl, rfl, rfl, rfl⟩, trivial⟩
    · rw [hk] at h4 he ⊢
      rw [hs]
      have h5 : (q.length == 2) = true := h4
      rw [beq_iff_eq] at h5
      obtain ⟨x, y, rfl⟩ := two_ofP h5
      obtain ⟨g1, g2⟩ := hex x (List.mem_cons_self ..) (he (exErr x) (List.mem_cons_self ..))
      obtain ⟨g3, g4⟩ := hkid y (List.mem_cons_of_mem _ (List.mem_cons_self ..)) (he (pErr y) (List.mem_cons_of_mem _ (List.mem_cons_self ..)))
      refine ⟨?_, .inr (.inl ⟨rfl, rfl, ⟨_, rfl, g1⟩, rfl, rfl, rfl, rfl, rfl⟩), g4, trivial⟩
      show pOpen (pAtom bFilter :: [xTree (xRead x).1] ++ [pTree (pPlan y)]) = _
      rw [g2, g3]
      rfl
    · rw [hk] at h4 he ⊢
      rw [hs]
      have h5 : (decide (2 ≤ q.length) && (q.take (q.length - 1)).all isColT) = true := h4
      rw [Bool.and_eq_true, decide_eq_true_eq] at h5
      obtain ⟨c, z, rfl⟩ := last_ofP (l := q) (by omega)
      have hlen : (c ++ [z]).length - 1 = c.length := by simp
      have htk : (c ++ [z]).take ((c ++ [z]).length - 1) = c := by rw [hlen, List.take_left']; rfl
      have hdr : ∀ {α : Type} (f : T → α), ((c ++ [z]).map f).drop ((c ++ [z]).length - 1) = [f z] := fun f => by
        rw [hlen, List.map_append, List.drop_left' (by rw [List.length_map])]
        rfl
      rw [htk, List.all_eq_true] at h5
      have he2 : ∀ e ∈ c.flatMap colErrs ++ [pErr z], e.1 = 0 := by
        have h6 : ∀ e ∈ ((c ++ [z]).take ((c ++ [z]).length - 1)).flatMap colErrs ++ ((c ++ [z]).map pErr).drop ((c ++ [z]).length - 1), e.1 = 0 := he
        rwa [htk, hdr] at h6
      have hc : ∀ x ∈ c, (nmErr (at_ x.kids 0)).1 = 0 ∧ (exErr (at_ x.kids 1)).1 = 0 := fun x hx => ⟨he2 _ (List.mem_append_left _ (List.mem_flatMap.2 ⟨x, hx, List.mem_cons_self ..⟩)), he2 _ (List.mem_append_left _ (List.mem_flatMap.2 ⟨x, hx, List.mem_cons_of_mem _ (List.mem_cons_self ..)⟩))⟩
      obtain ⟨g3, g4⟩ := hkid z (List.mem_append_right _ (List.mem_cons_self ..)) (he2 _ (List.mem_append_right _ (List.mem_cons_self ..)))
      have hcs : c.map (fun x => colTree (colN x) (colE x)) = c.map T.strip := List.map_congr_left fun x hx => (col_strip (hq x (List.mem_append_left _ hx)) (h5.2 x hx) (hc x hx).2).symm
      have hkf : ∀ x ∈ c, (at_ x.kids 1).fine = true := fun x hx => by
        have hcol := h5.2 x hx
        unfold isColT at hcol
        simp only [Bool.and_eq_true, beq_iff_eq] at hcol
        have hk2 := two_at hcol.1.2
        exact (open_strip (hq x (List.mem_append_left _ hx)) hcol.1.1).2 _ (by rw [hk2]; simp)
      have hmk : pMake 3 (c ++ [z]) ((c ++ [z]).map pPlan) = .mk 3 [] (c.map colE) (c.map colN) [] [] [] [pPlan z] := by
        show Pl.mk 3 [] (((c ++ [z]).take ((c ++ [z]).length - 1)).map colE) (((c ++ [z]).take ((c ++ [z]).length - 1)).map colN) [] [] [] (((c ++ [z]).map pPlan).drop ((c ++ [z]).length - 1)) = _
        rw [htk, hdr]
      rw [hmk]
      refine ⟨?_, .inr (.inr (.inl ⟨rfl, rfl, fun e he => ?_, by rw [List.length_map, List.length_map], by rw [List.length_map]; have := h5.1; simp at this; omega, fun s hs => ?_, rfl, rfl, rfl, rfl⟩)), g4, trivial⟩
      · show pOpen ((pAtom bProject :: List.zipWith colTree (c.map colN) (c.map colE)) ++ [pTree (pPlan z)]) = _
        rw [List.zipWith_map, List.zipWith_self, hcs, g3, List.map_append]
        rfl
      · obtain ⟨x, hx, rfl⟩ := List.mem_map.1 he
        exact ex_good (fine_fair _ (hkf x hx)).2 (fine_fair _ (hkf x hx)).1 (hc x hx).2
      · obtain ⟨x, hx, rfl⟩ := List.mem_map.1 hs
        exact nm_name (hc x hx).1
    · rw [hk] at h4 he ⊢
      rw [hs]
      have h5 : (q.length == 4 && (q.take 2).all isNmsT) = true := h4
      rw [Bool.and_eq_true, beq_iff_eq] at h5
      match q, h5.1 with
      | [x, y, u, v], _ =>
        have h6 : (isNmsT x && (isNmsT y && true)) = true := h5.2
        rw [Bool.and_eq_true, Bool.and_eq_true] at h6
        have he2 : ∀ e ∈ x.kids.map nmErr ++ (y.kids.map nmErr ++ [pErr u, pErr v]), e.1 = 0 := he
        obtain ⟨g1, g2⟩ := hkid u (by simp) (he2 _ (by simp))
        obtain ⟨g3, g4⟩ := hkid v (by simp) (he2 _ (by simp))
        have hx := (nms_strip (hq x (by simp)) h6.1).1
        have hy := (nms_strip (hq y (by simp)) h6.2.1).1
        refine ⟨?_, .inr (.inr (.inr (.inl ⟨rfl, rfl, rfl, rfl, fun s hs => ?_, fun s hs => ?_, rfl, rfl⟩))), g2, g4, trivial⟩
        · show pOpen ([pAtom bJoin, pNames (x.kids.map T.s), pNames (y.kids.map T.s)] ++ [pTree (pPlan u), pTree (pPlan v)]) = _
          rw [← hx, ← hy, g1, g3]
          rfl
        · obtain ⟨z, hz, rfl⟩ := List.mem_map.1 hs
          exact nm_name (he2 _ (List.mem_append_left _ (List.mem_map_of_mem hz)))
        · obtain ⟨z, hz, rfl⟩ := List.mem_map.1 hs
          exact nm_name (he2 _ (List.mem_append_right _ (List.mem_append_left _ (List.mem_map_of_mem hz))))
    · rw [hk] at h4 he ⊢
      rw [hs]
      have h5 : (q.length == 2) = true := h4
      rw [beq_iff_eq] at h5
      obtain ⟨x, y, rfl⟩ := two_ofP h5
      obtain ⟨g1, g2⟩ := hkid x (by simp) (he (pErr x) (List.mem_cons_self ..))
      obtain ⟨g3, g4⟩ := hkid y (by simp) (he (pErr y) (List.mem_cons_of_mem _ (List.mem_cons_self ..)))
      refine ⟨?_, .inr (.inr (.inr (.inr (.inl ⟨rfl, rfl, rfl, rfl, rfl, rfl, rfl, rfl⟩)))), g2, g4, trivial⟩
      show pOpen ([pAtom bUnion] ++ [pTree (pPlan x), pTree (pPlan y)]) = _
      rw [g1, g3]
      rfl
    · rw [hk] at h4 he ⊢
      rw [hs]
      have h5 : (q.length == 1) = true := h4
      rw [beq_iff_eq] at h5
      obtain ⟨x, rfl⟩ := one_ofP h5
      obtain ⟨g1, g2⟩ := hkid x (by simp) (he (pErr x) (List.mem_cons_self ..))
      refine ⟨?_, .inr (.inr (.inr (.inr (.inr (.inl ⟨rfl, rfl, rfl, rfl, rfl, rfl, rfl, rfl⟩))))), g2, trivial⟩
      show pOpen ([pAtom bDistinct] ++ [pTree (pPlan x)]) = _
      rw [g1]
      rfl
    · rw [hk] at h4 he ⊢
      rw [hs]
      have h5 : (decide (2 ≤ q.length) && isNmsT (at_ q 0) && ((q.take (q.length - 1)).drop 1).all isAggT) = true := h4
      rw [Bool.and_eq_true, Bool.and_eq_true, decide_eq_true_eq] at h5
      obtain ⟨x, r, rfl⟩ : ∃ x r, q = x :: r := by
        cases q with
        | nil => simp at h5
        | cons x r => exact ⟨x, r, rfl⟩
      obtain ⟨c, z, rfl⟩ := last_ofP (l := r) (by have := h5.1.1; simp at this; omega)
      have hlen : (x :: (c ++ [z])).length - 1 = c.length + 1 := by simp
      have htk : ((x :: (c ++ [z])).take ((x :: (c ++ [z])).length - 1)).drop 1 = c := by
        rw [hlen, List.take_succ_cons, List.drop_succ_cons, List.drop_zero, List.take_left']
        rfl
      have hdr : ∀ {α : Type} (f : T → α), ((x :: (c ++ [z])).map f).drop ((x :: (c ++ [z])).length - 1) = [f z] := fun f => by
        rw [hlen, List.map_cons, List.drop_succ_cons, List.map_append, List.drop_left' (by rw [List.length_map])]
        rfl
      rw [htk, List.all_eq_true] at h5
      have he2 : ∀ e ∈ x.kids.map nmErr ++ (c.flatMap agErrs ++ [pErr z]), e.1 = 0 := by
        have h6 : ∀ e ∈ x.kids.map nmErr ++ ((((x :: (c ++ [z])).take ((x :: (c ++ [z])).length - 1)).drop 1).flatMap agErrs ++ ((x :: (c ++ [z])).map pErr).drop ((x :: (c ++ [z])).length - 1)), e.1 = 0 := he
        rwa [htk, hdr] at h6
      obtain ⟨g3, g4⟩ := hkid z (by simp) (he2 _ (by simp))
      have hx := (nms_strip (hq x (by simp)) h5.1.2).1
      have hcs : (c.map agOf).map agTree = c.map T.strip := by
        rw [List.map_map]
        exact List.map_congr_left fun y hy => (agg_strip (hq y (by simp [hy])) (h5.2 y hy)).symm
      have hmk : pMake 7 (x :: (c ++ [z])) ((x :: (c ++ [z])).map pPlan) = .mk 7 [] [] [] (x.kids.map T.s) [] (c.map agOf) [pPlan z] := by
        show Pl.mk 7 [] [] [] (x.kids.map T.s) [] ((((x :: (c ++ [z])).take ((x :: (c ++ [z])).length - 1)).drop 1).map agOf) (((x :: (c ++ [z])).map pPlan).drop ((x :: (c ++ [z])).length - 1)) = _
        rw [htk, hdr]
      rw [hmk]
      refine ⟨?_, .inr (.inr (.inr (.inr (.inr (.inr ⟨rfl, rfl, rfl, rfl, fun s hs => ?_, rfl, fun a ha => ?_, rfl⟩))))), g4, trivial⟩
      · show pOpen ((pAtom bGroup :: pNames (x.kids.map T.s) :: (c.map agOf).map agTree) ++ [pTree (pPlan z)]) = _
        rw [← hx, hcs, g3, List.map_cons, List.map_append]
        rfl
      · obtain ⟨y, hy, rfl⟩ := List.mem_map.1 hs
        exact nm_name (he2 _ (List.mem_append_left _ (List.mem_map_of_mem hy)))
      · obtain ⟨y, hy, rfl⟩ := List.mem_map.1 ha
        exact agg_good (hq y (by simp [hy])) (h5.2 y hy) fun e he => he2 _ (List.mem_append_right _ (List.mem_append_left _ (List.mem_flatMap.2 ⟨y, hy, he⟩)))
    · rw [hk] at h4
      cases h4
mutual
theorem fwdP : ∀ t : T, FwP t
  | .mk k s n l p => fwd_step k s n l p (fwdPs l)
theorem fwdPs : ∀ l : List T, ∀ t ∈ l, FwP t
  | [] => fun t h => by cases h
  | a :: l => by
    intro t h
    rcases List.mem_cons.1 h with h1 | h1
    · rw [h1]; exact fwdP a
    · exact fwdPs l t h1
end
end Go.Proofs.YtojbahjebfcmgaaGreatDoor
