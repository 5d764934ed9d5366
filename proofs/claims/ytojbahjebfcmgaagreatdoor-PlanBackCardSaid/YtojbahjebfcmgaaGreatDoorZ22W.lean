/-
  Texts that belong together: The law's own reading of a text: of. What is read from a short text is a small tree, all of whose parts are fair. What is evaluated keeps its Kind, or is refused; it hangs on the columns alone that are used; what is read of a text has short texts. Plain facts. The document's own expressions: kind, Type. The document's own expressions: num, truth, sums. The document's own expressions: eval, Eval. The fixed texts of the laws, read. The columns that the laws ask; what the fixed expressions are worth. Chapter 8's runs ('known'); Eval and Type of an expression that is known. Package expr: all parts of a tree; what is told of a tree that stands for no expression. The law's own function out: a tree of the document as the program's. Package expr: Read. Regions that load a struct out of its box, ask for the columns of t and call with both: the facts that they want.
-/
import Derived.Test.YtojbahjebfcmgaaGreatDoorZ21W
import Derived.Test.YtojbahjebfcmgaaGreatDoorZ18W
import Derived.BigQuiet
import Derived.Test.YtojbahjebfcmgaaGreatDoorZ8W
import Derived.KernelRfl
import Derived.Test.YtojbahjebfcmgaaGreatDoorZ10W
import Derived.Test.YtojbahjebfcmgaaGreatDoorZ17W
import Derived.Test.YtojbahjebfcmgaaGreatDoorZ6W
import Derived.Test.YtojbahjebfcmgaaGreatDoorZ0W
import Derived.Deep.DeepCutAuto
import Derived.Test.YtojbahjebfcmgaaGreatDoorZ15W
import Derived.Test.YtojbahjebfcmgaaGreatDoorZ1W
namespace Go.Proofs.YtojbahjebfcmgaaGreatDoor
open Go.RowKit
set_option linter.unusedVariables false

end Go.Proofs.YtojbahjebfcmgaaGreatDoor

namespace Go.Proofs.YtojbahjebfcmgaaGreatDoor
open Go.RowKit
set_option linter.unusedVariables false

theorem sxText_s : ∀ (N : Nat) (r b : By) (i : Nat), r.length ≤ N → (sxTextGo b r i).s.length ≤ 40
  | 0, [], b, i, _ => by simp [sxTextGo, sxWrong]
  | N + 1, [], b, i, _ => by simp [sxTextGo, sxWrong]
  | 0, c :: q, b, i, h => by simp at h
  | N + 1, c :: q, b, i, h => by
    have hq : q.length ≤ N := by simpa using h
    unfold sxTextGo
    split
    · exact sxText_s N q _ _ hq
    · split
      · cases q with
        | nil => simp [sxWrong]
        | cons x q1 =>
          simp only []
          cases sxHex x with
          | none => simp [sxWrong]
          | some a =>
            cases q1 with
            | nil => simp [sxWrong]
            | cons y q2 =>
              simp only []
              cases sxHex y with
              | none => simp [sxWrong]
              | some k => exact sxText_s N q2 _ _ (by simp at hq; omega)
      · split
        · split
          · simp [sxWrong]
          · rename_i h; simp; omega
        · simp [sxWrong]
theorem sxNum_n (plus : Bool) (d : By) (hd : ∀ c ∈ d, sxDigit c = true) : i64R (sxNum plus d).n ∧ (sxNum plus d).s = [] := by
  unfold sxNum
  cases hb : sxBelow d 0 with
  | none => exact ⟨(show i64R 0 by decide), rfl⟩
  | some n =>
    have hr := sxBelow_range d hd 0 n (by omega) (by omega) hb
    simp only []
    split
    · exact ⟨(show i64R 0 by decide), rfl⟩
    · rename_i h1
      cases plus
      · simp only [Bool.false_eq_true, if_false]
        exact ⟨⟨hr.1, by omega⟩, by simp⟩
      · simp at h1
        simp only [if_true]
        exact ⟨⟨by omega, by have := h1.2; omega⟩, by simp⟩
theorem T.add_size (e t : T) : (e.add t).size = e.size + t.size := by
  rw [T.size_eq, T.size_eq e]
  show ((e.kids ++ [t]).map T.size).sum + 1 = _
  rw [List.map_append, List.sum_append]
  simp
  omega
theorem put_sum : ∀ (os : List T) (t : T), ((sxPut os t).map T.size).sum ≤ (os.map T.size).sum + t.size
  | [], t => by simp [sxPut]
  | [e], t => by simp [sxPut, T.add_size]
  | e :: e' :: os, t => by
    have := put_sum (e' :: os) t
    simp only [sxPut, List.map_cons, List.sum_cons] at this ⊢
    omega
theorem pop_sum (os : List T) : ((rfPop os).map T.size).sum ≤ (os.map T.size).sum := by
  unfold rfPop
  cases h : os.getLast? with
  | none => exact Nat.le_refl _
  | some e =>
    have h1 := put_sum os.dropLast e
    have h2 : os = os.dropLast ++ [e] := by rw [List.getLast?_eq_some_iff] at h; obtain ⟨l, rfl⟩ := h; simp
    have h3 : (os.map T.size).sum = (os.dropLast.map T.size).sum + e.size := by
      conv => lhs; rw [h2]
      rw [List.map_append, List.sum_append]
      simp
    simp only []
    omega
end Go.Proofs.YtojbahjebfcmgaaGreatDoor

namespace Go.Proofs.YtojbahjebfcmgaaGreatDoor
open Go.RowKit
set_option linter.unusedVariables false

/-- A text that was read is of at most 40 bytes. -/
def textB (t : T) : Bool := !(t.kind == 4) || decide (t.s.length ≤ 40)
/-- A text within an expression is of at most 40 bytes. -/
def exprB (e : T) : Bool := !(e.kind == 3) || decide (e.s.length ≤ 40)
theorem exprB_leaf {k : Int} {s : By} {n : Int} {l : List T} {p : Nat} (h : s.length ≤ 40) : exprB (.mk k s n l p) = true := by
  unfold exprB
  rw [Bool.or_eq_true]
  exact .inr (decide_eq_true h)
theorem fairB_mk {k : Int} {s : By} {n : Int} {l : List T} {p : Nat} (h1 : i64R n) (h2 : s.length ≤ 100000) : fairB (.mk k s n l p) = true := by
  unfold fairB
  rw [Bool.and_eq_true]
  exact ⟨decide_eq_true h1, decide_eq_true h2⟩
theorem fairB_of {k : Int} {s : By} {n : Int} {l : List T} {p : Nat} (h : fairB (.mk k s n l p) = true) : i64R n ∧ s.length ≤ 100000 := by
  unfold fairB at h
  rw [Bool.and_eq_true] at h
  exact ⟨of_decide_eq_true h.1, of_decide_eq_true h.2⟩
theorem xReads_every {p : T → Bool} (hz : sxZero.every p = true) (s : By) (hp : ∀ l, p (.mk 4 s 0 l 0) = true) : ∀ (rs : List XRes) (done : List T), (∀ t ∈ done, t.every p = true) → (∀ r ∈ rs, r.1.every p = true) → (xReads s done rs).1.every p = true
  | [], done, hd, _ => by
    simp only [xReads]
    rw [T.every_eq, hp]
    show (true && done.all (T.every p)) = true
    rw [Bool.true_and, List.all_eq_true]
    exact hd
  | r :: rs, done, hd, hr => by
    unfold xReads
    split
    · refine xReads_every hz s hp rs _ (fun t ht => ?_) fun x hx => hr x (List.mem_cons_of_mem _ hx)
      rcases List.mem_append.1 ht with h | h
      · exact hd t h
      · simp at h; subst h; exact hr r (List.mem_cons_self ..)
    · exact hz
theorem xRead_open2 (s : By) (n : Int) (l : List T) (p : Nat) : xRead (.mk 1 s n l p) = (match l with
    | [] => xBad 12 p
    | h :: q => if h.kind == 2 && !(xTakes h.s == 0) then (if q.length == xTakes h.s then xReads h.s [] (q.map xRead) else xBad 23 p) else xBad 12 p) := by
  cases l with
  | nil => rfl
  | cons h q => simp only [xRead, xReadAll_map]; rfl
theorem xRead_other {k : Int} (s : By) (n : Int) (l : List T) (p : Nat) (h1 : k ≠ 1) : xRead (.mk k s n l p) = if k == 2 then (if xName s then (.mk 1 s 0 [] 0, 0, 0) else xBad 20 p) else if k == 3 then (.mk 2 [] n [] 0, 0, 0) else if k == 4 then (.mk 3 s 0 [] 0, 0, 0) else xBad 12 p := by
  have h : (k == 1) = false := beq_eq_false_iff_ne.2 h1
  cases l <;> simp only [xRead, h, Bool.false_eq_true, if_false]
mutual
theorem xRead_texts : ∀ t : T, t.every textB = true → (xRead t).1.every exprB = true
  | .mk k s n l p, h => by
    have hz : sxZero.every exprB = true := by decide +kernel
    rw [T.every, Bool.and_eq_true] at h
    have hl := xReadAll_texts l h.2
    by_cases k1 : k = 1
    · subst k1
      rw [xRead_open2]
      cases l with
      | nil => exact hz
      | cons hd q =>
        simp only
        split
        · split
          · refine xReads_every hz hd.s (fun l => rfl) _ [] (fun t ht => by cases ht) fun r hr => ?_
            obtain ⟨t, ht, rfl⟩ := List.mem_map.1 hr
            exact hl t (List.mem_cons_of_mem _ ht)
          · exact hz
        · exact hz
    · rw [xRead_other s n l p k1]
      split
      · split
        · simp [T.every, T.everys, exprB, T.kind]
        · exact hz
      split
      · simp [T.every, T.everys, exprB, T.kind]
      split
      · rename_i h4
        have h5 := h.1
        unfold textB at h5
        have h6 : s.length ≤ 40 := by
          rw [show (T.mk k s n l p).kind = k from rfl, h4, Bool.not_true, Bool.false_or] at h5
          exact of_decide_eq_true h5
        simp [T.every, T.everys, exprB_leaf h6]
      · exact hz
theorem xReadAll_texts : ∀ l : List T, T.everys textB l = true → ∀ t ∈ l, (xRead t).1.every exprB = true
  | [], _ => fun t ht => by cases ht
  | a :: l, h => by
    rw [T.everys, Bool.and_eq_true] at h
    intro t ht
    rcases List.mem_cons.1 ht with h3 | h3
    · rw [h3]; exact xRead_texts a h.1
    · exact xReadAll_texts l h.2 t h3
end
mutual
theorem xRead_fair : ∀ t : T, t.every fairB = true → (xRead t).1.every fairB = true
  | .mk k s n l p, h => by
    have hz : sxZero.every fairB = true := by decide +kernel
    rw [T.every, Bool.and_eq_true] at h
    have hl := xReadAll_fair l h.2
    have hl2 := h.2
    have h1 := fairB_of h.1
    have hi0 : i64R 0 := by decide
    by_cases k1 : k = 1
    · subst k1
      rw [xRead_open2]
      cases l with
      | nil => exact hz
      | cons hd q =>
        simp only
        have hh : hd.s.length ≤ 100000 := by
          rw [T.everys, Bool.and_eq_true, T.every_eq, Bool.and_eq_true] at hl2
          have := hl2.1.1
          unfold fairB at this
          rw [Bool.and_eq_true] at this
          exact of_decide_eq_true this.2
        split
        · split
          · refine xReads_every hz hd.s (fun l => ?_) _ [] (fun t ht => by cases ht) fun r hr => ?_
            · exact fairB_mk hi0 hh
            · obtain ⟨t, ht, rfl⟩ := List.mem_map.1 hr
              exact hl t (List.mem_cons_of_mem _ ht)
          · exact hz
        · exact hz
    · rw [xRead_other s n l p k1]
      split
      · split
        · simp [T.every, T.everys, fairB_mk hi0 h1.2]
        · exact hz
      split
      · simp [T.every, T.everys, fairB_mk h1.1 (show ([] : By).length ≤ 100000 by simp)]
      split
      · simp [T.every, T.everys, fairB_mk hi0 h1.2]
      · exact hz
theorem xReadAll_fair : ∀ l : List T, T.everys fairB l = true → ∀ t ∈ l, (xRead t).1.every fairB = true
  | [], _ => fun t ht => by cases ht
  | a :: l, h => by
    rw [T.everys, Bool.and_eq_true] at h
    intro t ht
    rcases List.mem_cons.1 ht with h3 | h3
    · rw [h3]; exact xRead_fair a h.1
    · exact xReadAll_fair l h.2 t h3
end
theorem xReads_size (s : By) : ∀ (rs : List XRes) (done : List T), (xReads s done rs).1.size ≤ (done.map T.size).sum + (rs.map fun r => r.1.size).sum + 1
  | [], done => by
    simp only [xReads]
    rw [T.size_eq]
    simp [T.kids]
  | r :: rs, done => by
    unfold xReads
    split
    · have := xReads_size s rs (done ++ [r.1])
      simp only [List.map_append, List.sum_append, List.map_cons, List.sum_cons, List.map_nil, List.sum_nil] at this ⊢
      omega
    · simp [sxZero, T.size, T.sizes]
theorem sum_map_le {α : Type} {f g : α → Nat} : ∀ {l : List α}, (∀ x ∈ l, f x ≤ g x) → (l.map f).sum ≤ (l.map g).sum
  | [], _ => Nat.le_refl _
  | a :: l, h => by
    have h1 := h a (List.mem_cons_self ..)
    have h2 := sum_map_le (l := l) fun x hx => h x (List.mem_cons_of_mem _ hx)
    simp only [List.map_cons, List.sum_cons]
    omega
mutual
theorem xRead_size : ∀ t : T, (xRead t).1.size ≤ t.size
  | .mk k s n l p => by
    have hp := T.size_pos (.mk k s n l p)
    have hb : sxZero.size ≤ (T.mk k s n l p).size := hp
    have hl := xReadAll_size l
    by_cases k1 : k = 1
    · subst k1
      rw [xRead_open2]
      cases l with
      | nil => exact hb
      | cons hd q =>
        simp only
        split
        · split
          · have h1 := xReads_size hd.s (q.map xRead) []
            have h2 : ((q.map xRead).map fun r => r.1.size).sum ≤ (q.map T.size).sum := by
              rw [List.map_map]
              exact sum_map_le fun t ht => hl t (List.mem_cons_of_mem _ ht)
            rw [T.size_eq (.mk 1 s n (hd :: q) p)]
            simp only [T.kids, List.map_cons, List.sum_cons, List.map_nil, List.sum_nil] at h1 ⊢
            omega
          · exact hb
        · exact hb
    · rw [xRead_other s n l p k1]
      split
      · split
        · exact hp
        · exact hb
      split
      · exact hp
      split
      · exact hp
      · exact hb
theorem xReadAll_size : ∀ l : List T, ∀ t ∈ l, (xRead t).1.size ≤ t.size
  | [] => fun t ht => by cases ht
  | a :: l => by
    intro t ht
    rcases List.mem_cons.1 ht with h3 | h3
    · rw [h3]; exact xRead_size a
    · exact xReadAll_size l t h3
end
mutual
/-- What Read makes is right. -/
theorem xRead_right : ∀ t : T, (xRead t).2.1 = 0 → xRight (xRead t).1 = true
  | .mk k s n l p => by
    intro h
    have hl := xReadAll_right l
    by_cases k1 : k = 1
    · subst k1
      rw [xRead_open2] at h ⊢
      cases l with
      | nil => simp [xBad] at h
      | cons hd q =>
        simp only at h ⊢
        by_cases hk : (hd.kind == 2 && !(xTakes hd.s == 0)) = true
        · rw [if_pos hk] at h ⊢
          by_cases hq : (q.length == xTakes hd.s) = true
          · rw [if_pos hq] at h ⊢
            have h3 : ∀ (rs : List XRes) (done : List T), (xReads hd.s done rs).2.1 = 0 → (∀ r ∈ rs, r.2.1 = 0) ∧ xReads hd.s done rs = (.mk 4 hd.s 0 (done ++ rs.map (·.1)) 0, 0, 0) := by
              intro rs
              induction rs with
              | nil => intro done _; exact ⟨(fun _ h => by cases h), by simp [xReads]⟩
              | cons r rs ih =>
                intro done h
                unfold xReads at h ⊢
                by_cases hr : r.2.1 = 0
                · rw [if_pos (by simp [hr])] at h ⊢
                  obtain ⟨h1, h2⟩ := ih (done ++ [r.1]) h
                  refine ⟨fun x hx => ?_, by rw [h2]; simp⟩
                  rcases List.mem_cons.1 hx with rfl | hx
                  · exact hr
                  · exact h1 x hx
                · rw [if_neg (by simp [hr])] at h
                  exact absurd h hr
            obtain ⟨h1, h2⟩ := h3 _ [] h
            rw [h2]
            simp only [List.nil_append, List.map_map]
            simp only [Bool.and_eq_true, beq_iff_eq, Bool.not_eq_true', beq_eq_false_iff_ne] at hk hq
            rw [xRight, xRights_all, Bool.and_eq_true, List.all_eq_true]
            refine ⟨?_, fun t ht => ?_⟩
            · have : (xTakes hd.s == 0) = false := beq_eq_false_iff_ne.2 hk.2
              have e : ∀ L : List T, xForeign (.mk 4 hd.s 0 L 0) = (xTakes hd.s == 0 || !((0 : Int) == 0) || !(L.length == xTakes hd.s)) := fun L => rfl
              rw [e, this, List.length_map, hq]
              simp
            · obtain ⟨u, hu, rfl⟩ := List.mem_map.1 ht
              exact hl u (List.mem_cons_of_mem _ hu) (h1 _ (List.mem_map.2 ⟨u, hu, rfl⟩))
          · rw [if_neg hq] at h; exact absurd h (by simp [xBad])
        · rw [if_neg hk] at h; exact absurd h (by simp [xBad])
    · rw [xRead_other s n l p k1] at h ⊢
      by_cases k2 : k = 2
      · subst k2
        by_cases hn : xName s = true
        · simp [hn, xRight, xRights, xForeign, T.kind, T.s, T.n, T.kids]
        · simp [hn, xBad] at h
      · by_cases k3 : k = 3
        · subst k3; rfl
        · by_cases k4 : k = 4
          · subst k4; rfl
          · simp [k2, k3, k4, xBad] at h
theorem xReadAll_right : ∀ l : List T, ∀ t ∈ l, (xRead t).2.1 = 0 → xRight (xRead t).1 = true
  | [] => fun t ht => by cases ht
  | a :: l => by
    intro t ht
    rcases List.mem_cons.1 ht with h3 | h3
    · rw [h3]; exact xRead_right a
    · exact xReadAll_right l t h3
end
theorem op_cases {s : By} (h : (xTwo s || xOne s) = true) : s = bAdd ∨ s = bSub ∨ s = bMul ∨ s = bEq ∨ s = bLt ∨ s = bAnd ∨ s = bOr ∨ s = bCat ∨ s = bNeg ∨ s = bNot ∨ s = bLen := by
  unfold xTwo xOne at h
  simp only [Bool.or_eq_true, beq_iff_eq] at h
  rcases h with (((((((h1 | h1) | h1) | h1) | h1) | h1) | h1) | h1) | ((h1 | h1) | h1) <;> simp [h1]
end Go.Proofs.YtojbahjebfcmgaaGreatDoor

namespace Go.Proofs.YtojbahjebfcmgaaGreatDoor
open Go.RowKit
set_option linter.unusedVariables false

end Go.Proofs.YtojbahjebfcmgaaGreatDoor

namespace Go.Proofs.YtojbahjebfcmgaaGreatDoor
open Go.RowKit
set_option linter.unusedVariables false

end Go.Proofs.YtojbahjebfcmgaaGreatDoor

namespace Go.Proofs.YtojbahjebfcmgaaGreatDoor
open Go.RowKit
set_option linter.unusedVariables false

/-- What stays behind both parts' values. -/
structure EvS (w : World) (ga gb : Nat) (xc : Array Value) (va vb : V) (wz : World) : Prop where
  x : Bx 57 w.heap.size xc wz
  r : Bx 211 (w.heap.size + 1) #[.int .i64 0, .int .i64 0, .string ⟨#[]⟩] wz
  a : Bx 211 ga #[.int .i64 va.1, .int .i64 va.2.1, .string va.2.2] wz
  b : Bx 211 gb #[.int .i64 vb.1, .int .i64 vb.2.1, .string vb.2.2] wz
  all : Ev w wz
theorem EvS.ev {w : World} {ga gb : Nat} {xc : Array Value} {va vb : V} {wz wy : World} (h : EvS w ga gb xc va vb wz) (hE : Ev wz wy) : EvS w ga gb xc va vb wy := ⟨h.x.ev hE, h.r.ev hE, h.a.ev hE, h.b.ev hE, h.all.trans hE⟩
/-- The second part's value is stored. -/
theorem EvS.stored {w w0 w1 w2 : World} {xc : Array Value} {ka na : Int} {sa : ByteArray} (kb nb : Int) (sb : ByteArray) (hE0 : Ev w w0) (hX : Bx 57 w.heap.size xc w0) (hB : Bx 211 (w.heap.size + 1) #[.int .i64 0, .int .i64 0, .string ⟨#[]⟩] w0) (hE1 : Ev w0 w1)
    (hE2 : Ev ((w1.alloc (.cells #[.int .i64 ka, .int .i64 na, .string sa] 211)).alloc (.cells #[.int .i64 0, .int .i64 0, .string ⟨#[]⟩] 211)) w2) :
    EvS w w1.heap.size (w1.heap.size + 1) xc (ka, na, sa) (kb, nb, sb) (set3 (w1.heap.size + 1) (.int .i64 kb) (.int .i64 nb) (.string sb) w2) := by
  have hE3 : Ev w1 w2 := ((Ev.alloc w1 _).trans (Ev.alloc _ _)).trans hE2
  have hA : Bx 211 w1.heap.size #[.int .i64 ka, .int .i64 na, .string sa] w2 := (Bx.new 211 #[.int .i64 ka, .int .i64 na, .string sa] w1).ev ((Ev.alloc _ _).trans hE2)
  have hZ : Bx 211 (w1.heap.size + 1) #[.int .i64 0, .int .i64 0, .string ⟨#[]⟩] w2 := by
    have := (vbox (w1.alloc (.cells #[.int .i64 ka, .int .i64 na, .string sa] 211))).ev hE2
    simpa using this
  have hl : w.heap.size + 1 < w1.heap.size := Nat.lt_of_lt_of_le hB.lt hE1.size
  have hS := set3_but (w1.heap.size + 1) (.int .i64 kb) (.int .i64 nb) (.string sb) w2
  refine ⟨?_, ?_, ?_, hZ.set3 _ _ _, ?_⟩
  · exact (hX.ev (hE1.trans hE3)).but hS (by simp; omega)
  · exact (hB.ev (hE1.trans hE3)).but hS (by simp; omega)
  · exact hA.but hS (by simp)
  · exact ((hE0.trans hE1).trans hE3).box hS (by omega)

end Go.Proofs.YtojbahjebfcmgaaGreatDoor

namespace Go.Proofs.YtojbahjebfcmgaaGreatDoor
open Go.RowKit
set_option linter.unusedVariables false

end Go.Proofs.YtojbahjebfcmgaaGreatDoor

namespace Go.Proofs.YtojbahjebfcmgaaGreatDoor
open Go.RowKit
set_option linter.unusedVariables false

end Go.Proofs.YtojbahjebfcmgaaGreatDoor

namespace Go.Proofs.YtojbahjebfcmgaaGreatDoor
open Go.RowKit
set_option linter.unusedVariables false

end Go.Proofs.YtojbahjebfcmgaaGreatDoor

namespace Go.Proofs.YtojbahjebfcmgaaGreatDoor
open Go.RowKit
set_option linter.unusedVariables false

abbrev kidsTV : Value := .func (.func 161) #[] #[]
/-- The Kids that count, as they lie. -/
structure KidsAt (b0 : Nat) (w : World) (x : M) (A : Option Addr) (n cap : Nat) (Z : List M) : Prop where
  call : ∀ w1, Calls Tryz.prog 161 #[.agg #[.int .i64 x.kind, .string ⟨x.s.toArray⟩, .int .i64 x.n, .slice x.A x.kids.length x.cap, .int .i64 (x.pos : Int)]] w1 fun e w' => e = .returned (.slice A n cap) ∧ Ev w1 w'
  sl : Ms w A n cap Z
  lies : ∀ y ∈ Z, Lies b0 [] w y
  size : (Z.map fun x => x.t.size).sum + 1 ≤ x.t.size
  len : Z.length = n

set_option maxRecDepth 100000 in
theorem kids_at {b0 : Nat} {w : World} {x : M} (h : Lies b0 [] w x) : ∃ A n cap Z, KidsAt b0 w x A n cap Z := by
  by_cases hk : x.kind = 1
  · refine ⟨x.A, x.kids.length, x.cap, x.kids, fun w1 => ?_, h.ms, h.kid, ?_, rfl⟩
    · rw [hk]
      go_enter Tryz.func161, Tryz.ntmps161
      go_wp2
      go_ret
      exact ⟨rfl, Ev.alloc _ _⟩
    · have h1 := T.size_eq x.t
      rw [M.t_kids, List.map_map] at h1
      have : (T.size ∘ M.t) = (fun x : M => x.t.size) := rfl
      rw [this] at h1
      omega
  · refine ⟨none, 0, 0, [], fun w1 => ?_, Sl.nil_ w, (fun y hy => by cases hy), ?_, rfl⟩
    · have hk' : (x.kind != 1) = true := by simp [hk]
      go_enter Tryz.func161, Tryz.ntmps161
      go_wp2
      go_ret
      exact ⟨rfl, Ev.alloc _ _⟩
    · have := T.size_pos x.t
      simp
      omega
/-- How far the parts are gathered. -/
structure PtT (m : M) (b0 : Nat) (w0 : World) (v : Value) (L : List M) (i : Nat) (w : World) : Prop where
  own : Ow 67 5 mc w0.heap.size w v L
  ev : Ev w0 w
  lies : ∀ x ∈ L, Lies b0 [] w0 x
  le : i ≤ L.length
  size : i + ((L.drop i).map fun x => x.t.size).sum ≤ m.t.size
theorem PtT.short {m : M} {b0 : Nat} {w0 w : World} {v : Value} {L : List M} {i : Nat} (h : PtT m b0 w0 v L i w) : L.length ≤ m.t.size := by
  have h1 := sum_len ((L.drop i).map M.t)
  rw [List.length_map, List.length_drop, List.map_map] at h1
  have h2 := h.size
  have h3 := h.le
  have : (T.size ∘ M.t) = (fun x : M => x.t.size) := rfl
  rw [this] at h1
  omega
theorem PtT.next {m : M} {b0 : Nat} {w0 w w' : World} {v v' : Value} {L Z : List M} {i : Nat} {x : M} (h : PtT m b0 w0 v L i w) (hx : L[i]? = some x) (hZ : ∀ y ∈ Z, Lies b0 [] w0 y) (hs : (Z.map fun x => x.t.size).sum + 1 ≤ x.t.size) (ho : Ow 67 5 mc w0.heap.size w' v' (L ++ Z)) (hE : Ev w0 w') : PtT m b0 w0 v' (L ++ Z) (i + 1) w' := by
  obtain ⟨hi, hxe⟩ := List.getElem?_eq_some_iff.1 hx
  have hd : L.drop i = x :: L.drop (i + 1) := by rw [List.drop_eq_getElem_cons hi, hxe]
  have hd2 : (L ++ Z).drop (i + 1) = L.drop (i + 1) ++ Z := by rw [List.drop_append_of_le_length hi]
  refine ⟨ho, hE, fun y hy => ?_, by rw [List.length_append]; omega, ?_⟩
  · rcases List.mem_append.1 hy with h1 | h1
    · exact h.lies y h1
    · exact hZ y h1
  · have h1 := h.size
    rw [hd] at h1
    rw [hd2]
    simp only [List.map_append, List.sum_append, List.map_cons, List.sum_cons] at h1 ⊢
    omega

set_option maxRecDepth 100000 in
set_option maxHeartbeats 1600000 in
theorem ex_partsT (m : M) (b0 : Nat) (w : World) (h : Lies b0 [] w m) (hsz : m.t.size ≤ 16000) :
    Calls Tryz.prog 160 #[.agg #[.int .i64 m.kind, .string ⟨m.s.toArray⟩, .int .i64 m.n, .slice m.A m.kids.length m.cap, .int .i64 (m.pos : Int)], kidsTV] w fun e w' => ∃ (A : Option Addr) (n cap : Nat), e = .returned (.tuple #[.slice A n cap, .bool true]) ∧ Ev w w' := by
  have hE0 := (Ev.alloc w (.cells #[.int .i64 m.kind, .string ⟨m.s.toArray⟩, .int .i64 m.n, .slice m.A m.kids.length m.cap, .int .i64 (m.pos : Int)] 67)).trans (Ev.alloc _ (.cells #[.int .i64 m.kind, .string ⟨m.s.toArray⟩, .int .i64 m.n, .slice m.A m.kids.length m.cap, .int .i64 (m.pos : Int)] 67))
  have hP : PtT m b0 w (.slice (some ⟨w.heap.size + 1, 0, none⟩) 1 1) [m] 0 ((w.alloc (.cells #[.int .i64 m.kind, .string ⟨m.s.toArray⟩, .int .i64 m.n, .slice m.A m.kids.length m.cap, .int .i64 (m.pos : Int)] 67)).alloc (.cells #[.int .i64 m.kind, .string ⟨m.s.toArray⟩, .int .i64 m.n, .slice m.A m.kids.length m.cap, .int .i64 (m.pos : Int)] 67)) := by
    refine ⟨?_, hE0, fun x hx => by simp at hx; subst hx; exact h, by simp, by simp⟩
    have := Ow.made (et := 67) (base := w.heap.size) encM (w.alloc (.cells #[.int .i64 m.kind, .string ⟨m.s.toArray⟩, .int .i64 m.n, .slice m.A m.kids.length m.cap, .int .i64 (m.pos : Int)] 67)) [m] #[.int .i64 m.kind, .string ⟨m.s.toArray⟩, .int .i64 m.n, .slice m.A m.kids.length m.cap, .int .i64 (m.pos : Int)] rfl (by simp) (by simp)
    simpa using this
  have HP := Lib.hid hP
  clear hP hE0
  go_enter Tryz.func160, Tryz.ntmps160
  go_wp2
  go_loopw [6, 7] (fun av iv wr => ∃ (A : Option Addr) (n cap i : Nat) (L : List M), av = .slice A n cap ∧ iv = .int .i64 (i : Int) ∧ n = L.length ∧ Hid (PtT m b0 w (.slice A n cap) L i wr)) (fun _ iv _ => m.t.size - (intOf iv).toNat)
  case atStart => exact ⟨_, 1, 1, 0, [m], rfl, rfl, rfl, HP⟩
  case round =>
    obtain ⟨A, n, cap, i, L, rfl, rfl, hn, HS⟩ := hrel
    have hns := HS.out.short
    rw [← hn] at hns
    have HNL := Lib.hid hn
    clear hn
    obtain ⟨_, cap', hvv, hSl, hA⟩ := HS.out.own.form encM
    injection hvv with h1 h2 h3
    subst h1
    subst h3
    clear h2
    rw [← HNL.out] at hSl
    have hnc := hSl.le
    have hcm := hSl.max
    by_cases hi : i < n
    · obtain ⟨x, hx⟩ := hSl.at hi
      obtain ⟨b, off, rfl, hb, c0, c1, c2, c3, c4⟩ := Ms.cell hSl hx
      have HX := Lib.hid hx
      have hLx := HS.out.lies x (List.mem_of_getElem? hx)
      obtain ⟨xA, xn, xcap, Z, hKA⟩ := kids_at hLx
      have hks : xn + n ≤ m.t.size := by
        have h4 := HS.out.size
        have hd : L.drop i = x :: L.drop (i + 1) := by
          obtain ⟨hi', e⟩ := List.getElem?_eq_some_iff.1 hx
          rw [List.drop_eq_getElem_cons hi', e]
        rw [hd] at h4
        have h5 := hKA.size
        have h6 := sum_len (Z.map M.t)
        rw [List.length_map, List.map_map, hKA.len] at h6
        have h7 := sum_len ((L.drop (i + 1)).map M.t)
        rw [List.length_map, List.map_map, List.length_drop, ← HNL.out] at h7
        have : (T.size ∘ M.t) = (fun x : M => x.t.size) := rfl
        rw [this] at h6 h7
        simp only [List.map_cons, List.sum_cons] at h4
        omega
      have HKA := Lib.hid hKA
      have HKC := Lib.hid hKA.call
      have HKL := Lib.hid hKA.len
      have kc1 := hKA.sl.le
      have kc2 := hKA.sl.max
      unfold M.kv at c3
      have i1 : (0 : Int) ≤ (i : Int) := by omega
      have i2 : (i : Int) < (n : Int) := by omega
      have i3 : ¬ ((16384 : Int) - (n : Int) < (xn : Int)) := by omega
      clear hx hLx hA hSl hb hKA
      go_wp2_with (first
        | ((with_reducible refine (HKC.out _).mono ?_); rintro e w1 ⟨rfl, hE1⟩)
        | ((show wpList _ _ _ (⟨some 31, _, _, _, _, _⟩ :: _) _ _); refine wpList_append_ow (o := ⟨some 31, _, _, _, _, _⟩) rfl 65 (.tmp 29) (.tmp 30) rfl encM Tryz.underlying65 Tryz.infoTree rfl rfl (HS.out.own.ev hE1) xA xn xcap Z rfl (HKA.out.sl.ev (HS.out.ev.trans hE1)) (by rw [HKL.out, ← HNL.out]; omega) (by rw [HKL.out, ← HNL.out]; omega) (HS.out.ev.trans hE1).size ?_; intro v2 w2 hA2; have E2 := ((But.of_ev (HS.out.ev.trans hE1)).then hA2.2.1).ev (fun k hk => (HS.out.own.lt (mem_foot.1 hk)).1); have S2 := HS.out.next HX.out HKA.out.lies HKA.out.size hA2.1 E2; obtain ⟨A2, cap2, rfl, _, _⟩ := hA2.1.form encM; generalize hnn : (L ++ Z).length = nn at S2 ⊢; have HNN2 := Lib.hid hnn.symm; clear hnn))
      go_roundw
      case rel => exact ⟨A2, nn, cap2, i + 1, _, rfl, by go_num, HNN2.out, Lib.hid S2⟩
      case measure => simp [intOf]; omega
    · have hin : i = L.length := by have := HS.out.le; have := HNL.out; omega
      have i2 : ¬ ((i : Int) < (n : Int)) := by omega
      go_wp2
      go_ret2
      exact ⟨⟨_, _, _, rfl⟩, HS.out.ev⟩
/-- The result's box is written: what lies in newer blocks stays. -/
theorem rx_finish {w wa wb : World} {x : M} {g : Nat} (hE : Ev w wb) (hg : w.heap.size ≤ g) (hL : Lx wa.heap.size [] wb x) (hga : g < wa.heap.size) (v0 v1 v2 v3 : Value) : Lx w.heap.size [] (set4 g v0 v1 v2 v3 wb) x ∧ Ev w (set4 g v0 v1 v2 v3 wb) :=
  ⟨((hL.less (K' := [g]) fun k hk => by simp at hk; subst hk; exact .inr (.inl hga)).move (set4_but _ _ _ _ _ _) fun k hk => by cases hk).low (by omega), hE.box (set4_but _ _ _ _ _ _) hg⟩
theorem bx_two (w : World) (c0 c1 c2 c3 c4 : Value) : ∃ w0, (w.alloc (.cells #[c0, c1, c2, c3, c4] 67)).alloc (.cells #[.int .i64 0, .string ⟨#[]⟩, .int .i64 0, .slice none 0 0] 57) = w0 ∧ Ev w w0 ∧ Bx 67 w.heap.size #[c0, c1, c2, c3, c4] w0 ∧ Bx 57 (w.heap.size + 1) #[.int .i64 0, .string ⟨#[]⟩, .int .i64 0, .slice none 0 0] w0 ∧ w.heap.size + 1 < w0.heap.size := by
  have hB : Bx 57 (w.heap.size + 1) #[.int .i64 0, .string ⟨#[]⟩, .int .i64 0, .slice none 0 0] ((w.alloc (.cells #[c0, c1, c2, c3, c4] 67)).alloc (.cells #[.int .i64 0, .string ⟨#[]⟩, .int .i64 0, .slice none 0 0] 57)) := by
    have := Bx.new 57 #[.int .i64 0, .string ⟨#[]⟩, .int .i64 0, .slice none 0 0] (w.alloc (.cells #[c0, c1, c2, c3, c4] 67))
    simpa using this
  exact ⟨_, rfl, (Ev.alloc w _).trans (Ev.alloc _ _), (Bx.new 67 #[c0, c1, c2, c3, c4] w).ev (Ev.alloc _ _), hB, hB.lt⟩

set_option maxRecDepth 100000 in
set_option maxHeartbeats 1600000 in
theorem ex_wrong (why : Int) (m : M) (w : World) : Calls Tryz.prog 162 #[.int .i64 why, .agg #[.int .i64 m.kind, .string ⟨m.s.toArray⟩, .int .i64 m.n, .slice m.A m.kids.length m.cap, .int .i64 (m.pos : Int)]] w (RxOut (sxZero, why, m.pos) w) := by
  obtain ⟨w0, hw0, hE0, hX, hB, hlt⟩ := bx_two w (.int .i64 m.kind) (.string ⟨m.s.toArray⟩) (.int .i64 m.n) (.slice m.A m.kids.length m.cap) (.int .i64 (m.pos : Int))
  have HE := Lib.hid hE0
  have HB := Lib.hid hB
  obtain ⟨⟨c0, c1, c2, c3, c4⟩, _⟩ := hX.five
  obtain ⟨⟨b0_, b1_, b2_, b3_⟩, g0_, g1_, g2_, g3_⟩ := hB.four
  clear hE0 hX hB
  go_enter Tryz.func162, Tryz.ntmps162
  go_wp2
  go_region
  all_goals (
    go_wp2
    (try simp only [Exit.inBlock, Exit.then])
    rw [set4_fold]
    refine bodyPost_ret (results_cell2' rfl _ _ _ _ _ rfl ((HB.out.ev (Ev.drew w0)).set4 _ _ _ _) Tryz.underlying57 rfl Tryz.sizeExpr) rfl ?_
    exact ⟨mzero, rfl, rfl, Lx.leaf, (HE.out.trans (Ev.drew w0)).box (set4_but _ _ _ _ _ _) (by omega)⟩
    )
end Go.Proofs.YtojbahjebfcmgaaGreatDoor

namespace Go.Proofs.YtojbahjebfcmgaaGreatDoor
open Go.RowKit
set_option linter.unusedVariables false

/-- A tree that is being made in box ge: its Kids so far. -/
structure TrSt (w1 : World) (ge : Nat) (m : M) (A : Option Addr) (n cap : Nat) (L : List M) (w : World) : Prop where
  box : Bx 67 ge #[.int .i64 m.kind, .string ⟨m.s.toArray⟩, .int .i64 m.n, .slice A n cap, .int .i64 (m.pos : Int)] w
  own : Ow 67 5 mc (ge + 1) w (.slice A n cap) L
  len : L.length = n
  lies : ∀ x ∈ L, Lies (ge + 1) (foot (.slice A n cap)) w x
  ev : Ev w1 w
  ge_ : w1.heap.size ≤ ge
theorem TrSt.init (w1 : World) (m : M) : TrSt w1 w1.heap.size m none 0 0 [] (w1.alloc (.cells #[.int .i64 m.kind, .string ⟨m.s.toArray⟩, .int .i64 m.n, .slice none 0 0, .int .i64 (m.pos : Int)] 67)) :=
  ⟨Bx.new _ _ w1, Ow.nil_ _, rfl, (fun x hx => by cases hx), Ev.alloc _ _, Nat.le_refl _⟩
theorem TrSt.next {w1 wr wq w2 : World} {ge n cap : Nat} {m : M} {A : Option Addr} {L : List M} {x : M} {v2 : Value} (h : TrSt w1 ge m A n cap L wr) (hE : Ev wr wq) (hx : Lies wr.heap.size [] wq x) (hA : AppSt 67 5 mc (ge + 1) wq (.slice A n cap) (L ++ [x]) v2 w2) :
    ∃ A2 cap2, v2 = .slice A2 (n + 1) cap2 ∧ TrSt w1 ge m A2 (n + 1) cap2 (L ++ [x]) (w2.setCell ⟨ge, 3, none⟩ v2) := by
  obtain ⟨ho, hb, hs⟩ := hA
  obtain ⟨A2, cap2, rfl, hSl, hAd⟩ := ho.form encM
  have hl : (L ++ [x]).length = n + 1 := by rw [List.length_append, h.len]; rfl
  rw [hl] at ho hs hSl hAd ⊢
  have hgl := h.box.lt
  have hK : ge ∉ foot (.slice A n cap) := fun hm => by have := (h.own.lt (mem_foot.1 hm)).1; omega
  have hK2 : ∀ g, (Value.slice A2 (n + 1) cap2).ownBlock = some g → ge + 1 ≤ g := fun g hg => (ho.lt hg).1
  have hB2 : Bx 67 ge #[.int .i64 m.kind, .string ⟨m.s.toArray⟩, .int .i64 m.n, .slice A n cap, .int .i64 (m.pos : Int)] w2 := (h.box.ev hE).but hb hK
  have hBS : But [ge] w2 (w2.setCell ⟨ge, 3, none⟩ (.slice A2 (n + 1) cap2)) := But.setCell _ _ (by simp)
  refine ⟨A2, cap2, rfl, ?_, ?_, hl, fun y hy => ?_, ?_, h.ge_⟩
  · have := hB2.set 3 (.slice A2 (n + 1) cap2)
    simpa using this
  · exact ho.but hBS fun g hg => by have := hK2 g hg; simp; omega
  · have hy2 : Lies (ge + 1) (foot (.slice A n cap)) wq y := by
      rcases List.mem_append.1 hy with h1 | h1
      · exact (h.lies y h1).ev hE
      · simp at h1
        subst h1
        refine (hx.less fun k hk => .inr (.inl ?_)).low (by omega)
        exact (h.own.lt (mem_foot.1 hk)).2
    have hy3 : Lies (ge + 1) (foot (.slice A2 (n + 1) cap2)) w2 y := hy2.move hb fun k hk => by
      rcases hs k (mem_foot.1 hk) with h1 | h1
      · exact .inl (mem_foot.2 h1)
      · exact .inr (.inr h1)
    have hy4 : Lies (ge + 1) (ge :: foot (.slice A2 (n + 1) cap2)) w2 y := hy3.less fun k hk => by
      rcases List.mem_cons.1 hk with rfl | h1
      · exact .inr (.inl (by omega))
      · exact .inl h1
    exact hy4.move (hBS.wide fun k hk => by simp at hk; subst hk; exact .inl (by simp)) fun k hk => .inl (List.mem_cons_of_mem _ hk)
  · have h1 : Ev w1 w2 := ((But.of_ev (h.ev.trans hE)).then hb).ev fun k hk => by have := (h.own.lt (mem_foot.1 hk)).1; have := h.ge_; omega
    exact h1.box hBS h.ge_
theorem TrSt.after {w1 wr wq w2 : World} {ge n cap : Nat} {m : M} {A : Option Addr} {L : List M} {L' : List M} {v2 : Value} (h : TrSt w1 ge m A n cap L wr) (hE : Ev wr wq) (hA : AppSt 67 5 mc (ge + 1) wq (.slice A n cap) L' v2 w2) :
    Bx 67 ge #[.int .i64 m.kind, .string ⟨m.s.toArray⟩, .int .i64 m.n, .slice A n cap, .int .i64 (m.pos : Int)] w2 :=
  (h.box.ev hE).but hA.2.1 fun hm => by have := (h.own.lt (mem_foot.1 hm)).1; omega
theorem TrSt.done {w1 w : World} {ge n cap : Nat} {m : M} {A : Option Addr} {L : List M} (h : TrSt w1 ge m A n cap L w) {b0 : Nat} (hb : b0 ≤ ge) : Lies b0 [] w (.mk m.kind m.s m.n A cap L m.pos) ∧ n = L.length := by
  obtain ⟨A2, cap2, hv, hSl, hAd⟩ := h.own.form encM
  injection hv with h1 h2 h3
  subst h1; subst h3
  refine ⟨.mk hSl (fun ad e => ⟨by have := (hAd ad e).2.1; omega, (hAd ad e).2.2.1, by simp⟩) fun k hk => ((h.lies k hk).less fun x hx => by cases hx).low (by omega), h2⟩
/-- What comes back: the same tree, in new memory. -/
def TrOut (t : T) (w : World) (e : Ending) (w' : World) : Prop := ∃ x : M, e = .returned (.agg #[.int .i64 x.kind, .string ⟨x.s.toArray⟩, .int .i64 x.n, .slice x.A x.kids.length x.cap, .int .i64 (x.pos : Int)]) ∧ x.t = t ∧ Lies w.heap.size [] w' x ∧ Ev w w'

end Go.Proofs.YtojbahjebfcmgaaGreatDoor

namespace Go.Proofs.YtojbahjebfcmgaaGreatDoor
open Go.RowKit
set_option linter.unusedVariables false

/-- What read gives for trees that are no deeper. -/
def ReadAt (N : Nat) : Prop := ∀ (m : M) (b0 : Nat) (w : World), m.dep ≤ N → Lies b0 [] w m → m.t.every fairB = true → m.t.size ≤ 16000 →
  Calls Tryz.prog 163 #[.agg #[.int .i64 m.kind, .string ⟨m.s.toArray⟩, .int .i64 m.n, .slice m.A m.kids.length m.cap, .int .i64 (m.pos : Int)]] w (RxOut (xRead m.t) w)

set_option maxRecDepth 100000 in
set_option maxHeartbeats 16000000 in
theorem ex_readApply (N : Nat) (ih : ReadAt N) (m : M) (b0 : Nat) (w : World) (hd : m.dep ≤ N + 1) (hL : Lies b0 [] w m) (hfair : m.t.every fairB = true) (hsz : m.t.size ≤ 16000) (hk1 : m.kind = 1) :
    Calls Tryz.prog 194 #[.agg #[.int .i64 m.kind, .string ⟨m.s.toArray⟩, .int .i64 m.n, .slice m.A m.kids.length m.cap, .int .i64 (m.pos : Int)]] w (RxOut (xRead m.t) w) := by
  have hkl : m.kids.length ≤ 16000 := by
    have h1 := T.size_eq m.t
    have h2 := sum_len m.t.kids
    rw [M.t_kids, List.length_map] at h2
    rw [M.t_kids] at h1
    omega
  have HSZ := Lib.hid hsz
  have hke := xRead_eq m
  rw [hk1] at hke
  have hms := hL.ms
  unfold ReadAt at ih
  have HIH := Lib.hid ih
  have HL := Lib.hid hL
  have HD := Lib.hid hd
  have HFAIR := Lib.hid hfair
  have hwr := fun why w1 => ex_wrong why m w1
  rw [hk1] at hwr ⊢
  have HWR := Lib.hid hwr
  clear hwr
  obtain ⟨R, hR⟩ : ∃ R, R = xRead m.t := ⟨_, rfl⟩
  rw [← hR] at hke ⊢
  obtain ⟨kn, hkn⟩ : ∃ kn, kn = m.kids.length := ⟨_, rfl⟩
  rw [← hkn] at hms hkl HWR ⊢
  have HKN := Lib.hid hkn
  generalize hmA : m.A = mA at *
  generalize hmc : m.cap = mcap at *
  have hcm := hms.max
  have hcl := hms.le
  have HMS := Lib.hid hms
  obtain ⟨w0, hw0, hE0, hX, hB, hlt⟩ := bx_two w (.int .i64 1) (.string ⟨m.s.toArray⟩) (.int .i64 m.n) (.slice mA kn mcap) (.int .i64 (m.pos : Int))
  have HE := Lib.hid hE0
  have HX := Lib.hid hX
  have HB := Lib.hid hB
  have HLT := Lib.hid hlt
  obtain ⟨⟨c0, c1, c2, c3, c4⟩, _⟩ := hX.five
  obtain ⟨⟨b0_, b1_, b2_, b3_⟩, g0_, g1_, g2_, g3_⟩ := hB.four
  simp only [beq_self_eq_true, if_true, show ((1 : Int) == 2) = false from rfl, show ((1 : Int) == 3) = false from rfl, show ((1 : Int) == 4) = false from rfl, Bool.false_eq_true, if_false] at hke
  clear ih hL hd hfair hkn hE0 hX hB hR hmA hmc hms hlt hsz hk1
  cases hk : m.kids with
  | nil =>
    obtain rfl : kn = 0 := by rw [HKN.out, hk]; rfl
    rw [hk] at hke
    have HK : Hid (R = xBad 12 m.pos) := Lib.hid hke
    clear hke
    go_enter Tryz.func194, Tryz.ntmps194
    go_wp2_with (first
      | ((with_reducible refine (HWR.out 12 _).mono ?_); rintro e w1 ⟨x, rfl, hxt, hxl, hE1⟩; have HXT := Lib.hid hxt; have B1 := HB.out.ev hE1; have FIN := Lib.hid (fun v0 v1 v2 v3 => rx_finish (g := w.heap.size + 1) (HE.out.trans hE1) (by omega) hxl HLT.out v0 v1 v2 v3); obtain ⟨⟨b0_, b1_, b2_, b3_⟩, g0_, g1_, g2_, g3_⟩ := B1.four; clear hxt hxl))
    (try simp only [Exit.inBlock, Exit.then])
    rw [set4_fold]
    refine bodyPost_ret (results_cell2' rfl _ _ _ _ _ rfl (B1.set4 _ _ _ _) Tryz.underlying57 rfl Tryz.sizeExpr) rfl ?_
    exact ⟨x, by rw [HK.out]; rfl, by rw [HXT.out, HK.out]; rfl, FIN.out _ _ _ _⟩
  | cons hm1 q =>
    have hknq : kn = q.length + 1 := by rw [HKN.out, hk]; rfl
    rw [hk] at hke
    obtain ⟨b, off, rfl, hb, h0, h1, _, _, _⟩ := HMS.out.cell (i := 0) (x := hm1) (by rw [hk]; rfl)
    simp only [Nat.zero_mul, Nat.add_zero] at h0 h1
    have HH : Hid (∀ w1, Ev w w1 → w1.cell? ⟨b, off, none⟩ = some (.int .i64 hm1.kind) ∧ w1.cell? ⟨b, off + 1, none⟩ = some (.string ⟨hm1.s.toArray⟩)) := Lib.hid fun w1 hE => ⟨(hE.cell (p := ⟨_, _, none⟩) hb).trans h0, (hE.cell (p := ⟨_, _, none⟩) hb).trans h1⟩
    clear h0 h1
    obtain ⟨h0, h1⟩ := HH.out _ HE.out
    have i0 : ¬ ((kn : Int) = 0) := by omega
    have i0' : ((kn : Int) == 0) = false := beq_eq_false_iff_ne.2 i0
    have i1 : (0 : Int) < (kn : Int) := by omega
    have HKQ := Lib.hid hknq
    have HKIDS := Lib.hid hk
    clear hknq hk
    by_cases hh : hm1.kind = 2
    · have hhb : (hm1.kind == 2) = true := beq_iff_eq.2 hh
      have hhn : (hm1.kind != 2) = false := by simp [hh]
      have HT := fun w1 => ex_operands hm1.s w1
      unfold bstr at HT
      obtain ⟨t, ht⟩ : ∃ t, t = xTakes hm1.s := ⟨_, rfl⟩
      simp only [hhb, Bool.true_and] at hke
      rw [← ht] at HT hke
      have HT := Lib.hid HT
      have HTT := Lib.hid ht
      have E3 := Ev.alloc w0 (.cells #[.int .i64 4, .string ⟨hm1.s.toArray⟩, .int .i64 0, .slice none 0 0] 57)
      have HI0 := Lib.hid (RxSt.init w0 hm1.s)
      have HE3 := Lib.hid E3
      have HBA := Lib.hid (HB.out.ev HE3.out)
      have HXA := Lib.hid (HX.out.ev HE3.out)
      obtain ⟨⟨d0, d1, d2, d3⟩, r0, r1, r2, r3⟩ := HI0.out.box.four
      obtain ⟨⟨cc0, cc1, cc2, cc3, cc4⟩, _⟩ := HXA.out.five
      obtain ⟨⟨bb0_, bb1_, bb2_, bb3_⟩, gg0_, gg1_, gg2_, gg3_⟩ := HBA.out.four
      obtain ⟨hh0, hh1⟩ := HH.out _ (HE.out.trans HE3.out)
      clear hh ht E3
      by_cases hz : t = 0
      · subst hz
        have HK : Hid (R = xBad 12 m.pos) := Lib.hid (by rw [hke]; rfl)
        clear hke
        go_enter Tryz.func194, Tryz.ntmps194
        go_wp2_with (first
          | ((with_reducible refine (HT.out _).mono ?_); rintro e w1 ⟨rfl, rfl⟩)
          | ((with_reducible refine (HWR.out 12 _).mono ?_); rintro e w1 ⟨x, rfl, hxt, hxl, hE1⟩; have HXT := Lib.hid hxt; have B1 := HBA.out.ev hE1; have FIN := Lib.hid (fun v0 v1 v2 v3 => rx_finish (g := w.heap.size + 1) ((HE.out.trans HE3.out).trans hE1) (by omega) hxl (Nat.lt_of_lt_of_le HLT.out HE3.out.size) v0 v1 v2 v3); obtain ⟨⟨b0_, b1_, b2_, b3_⟩, g0_, g1_, g2_, g3_⟩ := B1.four; clear hxt hxl))
        (try simp only [Exit.inBlock, Exit.then])
        rw [set4_fold]
        refine bodyPost_ret (results_cell2' rfl _ _ _ _ _ rfl (B1.set4 _ _ _ _) Tryz.underlying57 rfl Tryz.sizeExpr) rfl ?_
        exact ⟨x, by rw [HK.out]; rfl, by rw [HXT.out, HK.out]; rfl, FIN.out _ _ _ _⟩
      · have z1 : ¬ ((t : Int) = 0) := by omega
        have z2 : ((t : Int) == 0) = false := beq_eq_false_iff_ne.2 z1
        have htb : (t == 0) = false := beq_eq_false_iff_ne.2 hz
        rw [htb] at hke
        simp only [Bool.not_false, if_true] at hke
        by_cases hq : q.length = t
        · rw [if_pos (beq_iff_eq.2 hq)] at hke
          have HK := Lib.hid hke
          have HQ := Lib.hid hq
          have hkt : (t : Int) = (kn : Int) - 1 := by have := HKQ.out; omega
          have hktb : ((t : Int) == ((kn : Int) - 1)) = true := beq_iff_eq.2 hkt
          have hktn : ((t : Int) != ((kn : Int) - 1)) = false := by simp; exact hkt
          have HKT := Lib.hid hkt
          have m1 : ¬ (mcap = 1) := by have := HKQ.out; omega
          have m2 : (1 : Int) ≤ (kn : Int) := by omega
          have m3 : (1 : Int) ≤ (mcap : Int) := by omega
          have m4 : (kn : Int) ≤ (mcap : Int) := by omega
          clear hke hkt hq
          go_enter Tryz.func194, Tryz.ntmps194
          go_wp2_with (first
            | ((with_reducible refine (HT.out _).mono ?_); rintro e w1 ⟨rfl, rfl⟩))
          have HKT2 : Hid (kn = t + 1) := Lib.hid (by have := HKQ.out; have := HQ.out; omega)
          go_loopw [62] (fun iv wr => ∃ (A : Option Addr) (n cap : Nat) (L : List M), iv = .int .i64 (n : Int) ∧ n ≤ t ∧ Hid (RxSt w0 w0.heap.size hm1.s A n cap L wr) ∧ Hid (R = xReads hm1.s (L.map M.t) ((q.drop n).map fun x => xRead x.t))) (fun iv _ => t - (intOf iv).toNat)
          case atStart => exact ⟨none, 0, 0, [], rfl, Nat.zero_le _, HI0, HK⟩
          case round =>
            obtain ⟨A, n, cap, L, rfl, hj, HS, HR⟩ := hrel
            have HEW := Lib.hid (HE.out.trans HS.out.ev)
            have HEW0 := Lib.hid HS.out.ev
            obtain ⟨⟨c0, c1, c2, c3, c4⟩, _⟩ := (HX.out.ev HEW0.out).five
            obtain ⟨⟨b0_, b1_, b2_, b3_⟩, g0_, g1_, g2_, g3_⟩ := (HB.out.ev HEW0.out).four
            obtain ⟨⟨d0, d1, d2, d3⟩, r0, r1, r2, r3⟩ := HS.out.box.four
            have HLL := Lib.hid HS.out.len
            by_cases hlt : n < t
            · obtain ⟨x, hx⟩ : ∃ x, q[n]? = some x := ⟨_, List.getElem?_eq_getElem (by have := HQ.out; omega)⟩
              have hxm : m.kids[n + 1]? = some x := by rw [HKIDS.out]; simpa using hx
              obtain ⟨b', off', he, _, x0, x1, x2, x3, x4⟩ := Ms.cell (HMS.out.ev HEW.out) hxm
              injection he with he
              injection he with he1 he2 _
              subst he1
              subst he2
              have hadr : off + (n + 1) * 5 = off + 5 + n * 5 := by omega
              rw [hadr] at x0 x1 x2 x3 x4
              have hdj : q.drop n = x :: q.drop (n + 1) := by
                obtain ⟨hj', e⟩ := List.getElem?_eq_some_iff.1 hx
                rw [List.drop_eq_getElem_cons hj', e]
              have HR1 := HR.out
              rw [hdj, List.map_cons] at HR1
              unfold xReads at HR1
              have hxk := List.mem_of_getElem? hxm
              have hxf : x.t.every fairB = true := by
                have h5 := HFAIR.out
                rw [T.every_eq, Bool.and_eq_true] at h5
                exact List.all_eq_true.1 h5.2 x.t (by rw [M.t_kids]; exact List.mem_map.2 ⟨x, hxk, rfl⟩)
              have hxs : x.t.size ≤ 16000 := by
                have h5 := T.size_eq m.t
                rw [M.t_kids, List.map_map] at h5
                have h6 := mem_le_sum (List.mem_map.2 ⟨x, hxk, rfl⟩ : x.t.size ∈ m.kids.map (T.size ∘ M.t))
                have := HSZ.out
                omega
              have HI := fun w1 (hE : Ev w w1) => HIH.out x b0 w1 (by have := M.kid_dep hxk; have := HD.out; omega) ((HL.out.kid x hxk).ev hE) hxf hxs
              unfold RxOut at HI
              unfold M.kv at x3
              generalize xRead x.t = rx at *
              obtain ⟨rt, ry, rp⟩ := rx
              simp only at HR1 HI
              have HI := Lib.hid HI
              have hnb : n ≤ 20000 := by have := HKT2.out; omega
              have i2 : (n : Int) < (t : Int) := by omega
              have i3 : (0 : Int) ≤ (n : Int) := by omega
              have i4 : (n : Int) < (kn : Int) - 1 := by have := HKT2.out; omega
              have i5 : (n : Int) < ((kn - 1 : Nat) : Int) := by have := HKT2.out; omega
              have HAL := Lib.hid (Ev.alloc wr (.cells #[.int .i64 x.kind, .string ⟨x.s.toArray⟩, .int .i64 x.n, .slice x.A x.kids.length x.cap, .int .i64 (x.pos : Int)] 67))
              clear hx hxm hdj hxk hxf hxs hadr
              by_cases hw : ry = 0
              · subst hw
                rw [if_pos (by rfl)] at HR1
                have HR2 := Lib.hid HR1
                clear HR1
                go_wp2_with (first
                  | ((with_reducible refine (HI.out _ (HEW.out.trans HAL.out)).mono ?_); rintro e w1 ⟨x', rfl, hxt, hxl, hE1⟩; have HXT := Lib.hid hxt; have HXL := Lib.hid (hxl.low HAL.out.size); have E1 := Lib.hid (HAL.out.trans hE1); obtain ⟨⟨d0, d1, d2, d3⟩, r0, r1, r2, r3⟩ := (HS.out.box.ev (E1.out.trans (Ev.alloc w1 (.cells #[.int .i64 x'.kind, .string ⟨x'.s.toArray⟩, .int .i64 x'.n, .slice x'.A x'.kids.length x'.cap] 57)))).four; clear hxt hxl)
                  | ((show wpList _ _ _ (⟨some 81, _, _, _, _, _⟩ :: _) _ _); refine wpList_append_ow (o := ⟨some 81, _, _, _, _, _⟩) rfl 22 (.tmp 78) (.tmp 80) rfl encE Tryz.underlying22 Tryz.infoExpr rfl rfl (HS.out.own.ev (E1.out.trans ((Ev.alloc w1 _).trans (Ev.alloc _ _)))) (some ⟨w1.heap.size + 1, 0, none⟩) 1 1 [x'] rfl (by have := Sl.one (et := 57) encE (w1.alloc (.cells #[.int .i64 x'.kind, .string ⟨x'.s.toArray⟩, .int .i64 x'.n, .slice x'.A x'.kids.length x'.cap] 57)) x' #[.int .i64 x'.kind, .string ⟨x'.s.toArray⟩, .int .i64 x'.n, .slice x'.A x'.kids.length x'.cap] rfl; simpa using this) (by rw [HLL.out]; simp; omega) (by rw [HLL.out]; simp; omega) (by have h7 := HS.out.box.lt; have h8 := (E1.out.trans ((Ev.alloc w1 (.cells #[.int .i64 x'.kind, .string ⟨x'.s.toArray⟩, .int .i64 x'.n, .slice x'.A x'.kids.length x'.cap] 57)).trans (Ev.alloc _ (.cells #[.int .i64 x'.kind, .string ⟨x'.s.toArray⟩, .int .i64 x'.n, .slice x'.A x'.kids.length x'.cap] 57)))).size; omega) ?_; intro v2 w2 hA2; obtain ⟨⟨d0, d1, d2, d3⟩, r0, r1, r2, r3⟩ := (HS.out.after (E1.out.trans ((Ev.alloc w1 _).trans (Ev.alloc _ _))) hA2).four; obtain ⟨A2, cap2, rfl, ST2⟩ := HS.out.next (E1.out.trans ((Ev.alloc w1 _).trans (Ev.alloc _ _))) (HXL.out.ev ((Ev.alloc w1 _).trans (Ev.alloc _ _))) hA2))
                go_roundw
                case rel => exact ⟨A2, n + 1, cap2, L ++ [x'], by go_num, by omega, Lib.hid ST2, Lib.hid (by rw [HR2.out, List.map_append, List.map_cons, List.map_nil, HXT.out])⟩
                case measure => simp [intOf]; omega
              · have hwb : (ry == 0) = false := beq_eq_false_iff_ne.2 hw
                have hwn : (ry != 0) = true := by simp [hw]
                rw [hwb] at HR1
                simp only [Bool.false_eq_true, if_false] at HR1
                have HR2 := Lib.hid HR1
                clear HR1
                go_wp2_with (first
                  | ((with_reducible refine (HI.out _ (HEW.out.trans HAL.out)).mono ?_); rintro e w1 ⟨x', rfl, hxt, hxl, hE1⟩; have E1 := HEW.out.trans (HAL.out.trans (hE1.trans (Ev.alloc w1 (.cells #[.int .i64 x'.kind, .string ⟨x'.s.toArray⟩, .int .i64 x'.n, .slice x'.A x'.kids.length x'.cap] 57)))); have B1 := HB.out.ev (HEW0.out.trans (HAL.out.trans (hE1.trans (Ev.alloc w1 (.cells #[.int .i64 x'.kind, .string ⟨x'.s.toArray⟩, .int .i64 x'.n, .slice x'.A x'.kids.length x'.cap] 57))))); obtain ⟨⟨b0_, b1_, b2_, b3_⟩, g0_, g1_, g2_, g3_⟩ := B1.four))
                (try simp only [Exit.inBlock, Exit.then])
                rw [set4_fold]
                refine bodyPost_ret (results_cell2' rfl _ _ _ _ _ rfl (B1.set4 _ _ _ _) Tryz.underlying57 rfl Tryz.sizeExpr) rfl ?_
                exact ⟨mzero, by rw [HR2.out]; rfl, by rw [HR2.out]; rfl, Lx.leaf, E1.box (set4_but _ _ _ _ _ _) (by omega)⟩
            · have hjk : n = t := by omega
              have i2 : ¬ ((n : Int) < (t : Int)) := by omega
              have i4 : ¬ ((n : Int) < (kn : Int) - 1) := by have := HKT2.out; omega
              have i5 : ¬ ((n : Int) < ((kn - 1 : Nat) : Int)) := by have := HKT2.out; omega
              have HR1 := HR.out
              rw [List.drop_of_length_le (by have := HQ.out; omega)] at HR1
              simp only [List.map_nil, xReads] at HR1
              have HR2 := Lib.hid HR1
              obtain ⟨hlx, hnl⟩ := HS.out.done (b0 := w.heap.size) HE.out.size
              have hlg := (HS.out.done (b0 := w0.heap.size) (Nat.le_refl _)).1
              have HLXG := Lib.hid (hlg.less (K' := [w.heap.size + 1]) fun k hk => by simp at hk; subst hk; exact .inr (.inl HLT.out))
              clear hlg
              have HNL := Lib.hid hnl
              clear HR1 hjk hlx hnl
              go_wp2
              (try simp only [Exit.inBlock, Exit.then])
              rw [set4_fold]
              refine bodyPost_ret (results_cell2' rfl _ _ _ _ _ rfl ((HB.out.ev HEW0.out).set4 _ _ _ _) Tryz.underlying57 rfl Tryz.sizeExpr) rfl ?_
              refine ⟨.mk 4 hm1.s 0 A cap L 0, by rw [HR2.out]; simp only [M.kids]; rw [← HNL.out]; rfl, by rw [HR2.out]; simp [M.t, M.ts_map], ?_, HEW.out.box (set4_but _ _ _ _ _ _) (by omega)⟩
              exact (HLXG.out.move (set4_but _ _ _ _ _ _) fun k hk => by cases hk).low (by have := HLT.out; omega)
        · rw [if_neg (by simp; exact hq)] at hke
          have HK : Hid (R = xBad 23 m.pos) := Lib.hid hke
          have hkt : ¬ ((t : Int) = (kn : Int) - 1) := by have := HKQ.out; omega
          have hktb : ((t : Int) == ((kn : Int) - 1)) = false := beq_eq_false_iff_ne.2 hkt
          have hktn : ((t : Int) != ((kn : Int) - 1)) = true := by simp; exact hkt
          clear hke
          go_enter Tryz.func194, Tryz.ntmps194
          go_wp2_with (first
            | ((with_reducible refine (HT.out _).mono ?_); rintro e w1 ⟨rfl, rfl⟩)
            | ((with_reducible refine (HWR.out 23 _).mono ?_); rintro e w1 ⟨x, rfl, hxt, hxl, hE1⟩; have HXT := Lib.hid hxt; have B1 := HBA.out.ev hE1; have FIN := Lib.hid (fun v0 v1 v2 v3 => rx_finish (g := w.heap.size + 1) ((HE.out.trans HE3.out).trans hE1) (by omega) hxl (Nat.lt_of_lt_of_le HLT.out HE3.out.size) v0 v1 v2 v3); obtain ⟨⟨b0_, b1_, b2_, b3_⟩, g0_, g1_, g2_, g3_⟩ := B1.four; clear hxt hxl))
          (try simp only [Exit.inBlock, Exit.then])
          rw [set4_fold]
          refine bodyPost_ret (results_cell2' rfl _ _ _ _ _ rfl (B1.set4 _ _ _ _) Tryz.underlying57 rfl Tryz.sizeExpr) rfl ?_
          exact ⟨x, by rw [HK.out]; rfl, by rw [HXT.out, HK.out]; rfl, FIN.out _ _ _ _⟩
    · have hhb : (hm1.kind == 2) = false := beq_eq_false_iff_ne.2 hh
      have hhn : (hm1.kind != 2) = true := by simp [hh]
      simp only [hhb, Bool.false_and, Bool.false_eq_true, if_false] at hke
      have HK : Hid (R = xBad 12 m.pos) := Lib.hid hke
      clear hke
      go_enter Tryz.func194, Tryz.ntmps194
      go_wp2_with (first
        | ((with_reducible refine (HWR.out 12 _).mono ?_); rintro e w1 ⟨x, rfl, hxt, hxl, hE1⟩; have HXT := Lib.hid hxt; have B1 := HB.out.ev hE1; have FIN := Lib.hid (fun v0 v1 v2 v3 => rx_finish (g := w.heap.size + 1) (HE.out.trans hE1) (by omega) hxl HLT.out v0 v1 v2 v3); obtain ⟨⟨b0_, b1_, b2_, b3_⟩, g0_, g1_, g2_, g3_⟩ := B1.four; clear hxt hxl))
      (try simp only [Exit.inBlock, Exit.then])
      rw [set4_fold]
      refine bodyPost_ret (results_cell2' rfl _ _ _ _ _ rfl (B1.set4 _ _ _ _) Tryz.underlying57 rfl Tryz.sizeExpr) rfl ?_
      exact ⟨x, by rw [HK.out]; rfl, by rw [HXT.out, HK.out]; rfl, FIN.out _ _ _ _⟩

set_option maxRecDepth 100000 in
set_option maxHeartbeats 8000000 in
theorem ex_read (N : Nat) : ReadAt N := by
  induction N with
  | zero =>
    intro m b0 w hd
    rw [M.dep_eq] at hd
    omega
  | succ N ih =>
    intro m b0 w hd hL hfair hsz
    have hke := xRead_eq m
    have hsl : m.s.length ≤ 100000 := by
      rw [T.every_eq, Bool.and_eq_true] at hfair
      have := hfair.1
      unfold fairB at this
      simp only [Bool.and_eq_true, decide_eq_true_iff, M.t_s] at this
      exact this.2
    have HWR := Lib.hid (fun why w1 => ex_wrong why m w1)
    have HAP := Lib.hid (fun w1 (hE : Ev w w1) (hk : m.kind = 1) => ex_readApply N ih m b0 w1 hd (hL.ev hE) hfair hsz hk)
    have hc1 := hL.ms.le
    have hc2 := hL.ms.max
    obtain ⟨w0, hw0, hE0, hX, hB, hlt⟩ := bx_two w (.int .i64 m.kind) (.string ⟨m.s.toArray⟩) (.int .i64 m.n) (.slice m.A m.kids.length m.cap) (.int .i64 (m.pos : Int))
    have HE := Lib.hid hE0
    have HB := Lib.hid hB
    have HX := Lib.hid hX
    have HLT := Lib.hid hlt
    obtain ⟨⟨c0, c1, c2, c3, c4⟩, _⟩ := hX.five
    obtain ⟨⟨b0_, b1_, b2_, b3_⟩, g0_, g1_, g2_, g3_⟩ := hB.four
    obtain ⟨R, hR⟩ : ∃ R, R = xRead m.t := ⟨_, rfl⟩
    rw [← hR] at hke HAP ⊢
    clear ih hL hd hfair hE0 hX hB hR hlt hsz
    by_cases k1 : m.kind = 1
    · have HAP2 := Lib.hid (fun w1 hE => HAP.out w1 hE k1)
      have k1b : (m.kind == 1) = true := beq_iff_eq.2 k1
      clear HAP hke k1
      go_enter Tryz.func163, Tryz.ntmps163
      go_wp2_with (first
        | ((with_reducible refine (HAP2.out _ HE.out).mono ?_); rintro e w1 ⟨x, rfl, hxt, hxl, hE1⟩; have HXT := Lib.hid hxt; have B1 := HB.out.ev hE1; have FIN := Lib.hid (fun v0 v1 v2 v3 => rx_finish (g := w.heap.size + 1) (HE.out.trans hE1) (by omega) hxl HLT.out v0 v1 v2 v3); obtain ⟨⟨b0_, b1_, b2_, b3_⟩, g0_, g1_, g2_, g3_⟩ := B1.four; clear hxt hxl))
      (try simp only [Exit.inBlock, Exit.then])
      rw [set4_fold]
      refine bodyPost_ret (results_cell2' rfl _ _ _ _ _ rfl (B1.set4 _ _ _ _) Tryz.underlying57 rfl Tryz.sizeExpr) rfl ?_
      exact ⟨x, rfl, HXT.out, FIN.out _ _ _ _⟩
    have k1' : (m.kind == 1) = false := beq_eq_false_iff_ne.2 k1
    rw [k1'] at hke
    by_cases k2 : m.kind = 2
    · have k2b : (m.kind == 2) = true := beq_iff_eq.2 k2
      rw [k2b] at hke
      simp only [if_true] at hke
      have HN := fun w1 => row_name (bstr m.s) w1
      unfold bstr at HN
      rw [show xName m.s = nameV ⟨m.s.toArray⟩ from rfl] at hke
      clear k1 k2
      cases hn : nameV ⟨m.s.toArray⟩ with
      | false =>
        rw [hn] at hke HN
        simp only [Bool.false_eq_true, if_false] at hke
        have HK := Lib.hid hke
        have HN := Lib.hid HN
        clear hke
        go_enter Tryz.func163, Tryz.ntmps163
        go_wp2_with (first
          | ((with_reducible refine (HN.out _).mono ?_); rintro e wn ⟨rfl, hEn⟩; have HEN := Lib.hid hEn; obtain ⟨⟨c0, c1, c2, c3, c4⟩, _⟩ := (HX.out.ev hEn).five)
          | ((with_reducible refine (HWR.out 20 _).mono ?_); rintro e w1 ⟨x, rfl, hxt, hxl, hE1⟩; have HXT := Lib.hid hxt; have B1 := HB.out.ev (HEN.out.trans hE1); have FIN := Lib.hid (fun v0 v1 v2 v3 => rx_finish (g := w.heap.size + 1) ((HE.out.trans HEN.out).trans hE1) (by omega) hxl (Nat.lt_of_lt_of_le HLT.out HEN.out.size) v0 v1 v2 v3); obtain ⟨⟨b0_, b1_, b2_, b3_⟩, g0_, g1_, g2_, g3_⟩ := B1.four; clear hxt hxl))
        (try simp only [Exit.inBlock, Exit.then])
        rw [set4_fold]
        refine bodyPost_ret (results_cell2' rfl _ _ _ _ _ rfl (B1.set4 _ _ _ _) Tryz.underlying57 rfl Tryz.sizeExpr) rfl ?_
        exact ⟨x, by rw [HK.out]; rfl, by rw [HXT.out, HK.out]; rfl, FIN.out _ _ _ _⟩
      | true =>
        rw [hn] at hke HN
        simp only [if_true] at hke
        have HK := Lib.hid hke
        have HN := Lib.hid HN
        clear hke
        go_enter Tryz.func163, Tryz.ntmps163
        go_wp2_with (first | ((with_reducible refine (HN.out _).mono ?_); rintro e w1 ⟨rfl, hE1⟩; have E1 := HE.out.trans hE1; have B1 := HB.out.ev hE1; obtain ⟨⟨c0, c1, c2, c3, c4⟩, _⟩ := (HX.out.ev hE1).five; obtain ⟨⟨b0_, b1_, b2_, b3_⟩, g0_, g1_, g2_, g3_⟩ := B1.four))
        (try simp only [Exit.inBlock, Exit.then])
        rw [set4_fold]
        refine bodyPost_ret (results_cell2' rfl _ _ _ _ _ rfl (B1.set4 _ _ _ _) Tryz.underlying57 rfl Tryz.sizeExpr) rfl ?_
        exact ⟨(.mk 1 m.s 0 none 0 [] 0), by rw [HK.out]; rfl, by rw [HK.out]; simp [M.t, M.ts], Lx.leaf, E1.box (set4_but _ _ _ _ _ _) (by omega)⟩
    have k2' : (m.kind == 2) = false := beq_eq_false_iff_ne.2 k2
    rw [k2'] at hke
    by_cases k3 : m.kind = 3
    · have k3b : (m.kind == 3) = true := beq_iff_eq.2 k3
      rw [k3b] at hke
      have HK : Hid (R = (.mk 2 [] m.n [] 0, 0, 0)) := Lib.hid hke
      clear hke k1 k2 k3
      go_enter Tryz.func163, Tryz.ntmps163
      go_wp2
      (try simp only [Exit.inBlock, Exit.then])
      rw [set4_fold]
      refine bodyPost_ret (results_cell2' rfl _ _ _ _ _ rfl (HB.out.set4 _ _ _ _) Tryz.underlying57 rfl Tryz.sizeExpr) rfl ?_
      exact ⟨(.mk 2 [] m.n none 0 [] 0), by rw [HK.out]; rfl, by rw [HK.out]; simp [M.t, M.ts], Lx.leaf, HE.out.box (set4_but _ _ _ _ _ _) (by omega)⟩
    have k3' : (m.kind == 3) = false := beq_eq_false_iff_ne.2 k3
    rw [k3'] at hke
    by_cases k4 : m.kind = 4
    · have k4b : (m.kind == 4) = true := beq_iff_eq.2 k4
      rw [k4b] at hke
      have HK : Hid (R = (.mk 3 m.s 0 [] 0, 0, 0)) := Lib.hid hke
      clear hke k1 k2 k3 k4
      go_enter Tryz.func163, Tryz.ntmps163
      go_wp2
      (try simp only [Exit.inBlock, Exit.then])
      rw [set4_fold]
      refine bodyPost_ret (results_cell2' rfl _ _ _ _ _ rfl (HB.out.set4 _ _ _ _) Tryz.underlying57 rfl Tryz.sizeExpr) rfl ?_
      exact ⟨(.mk 3 m.s 0 none 0 [] 0), by rw [HK.out]; rfl, by rw [HK.out]; simp [M.t, M.ts], Lx.leaf, HE.out.box (set4_but _ _ _ _ _ _) (by omega)⟩
    · have k4' : (m.kind == 4) = false := beq_eq_false_iff_ne.2 k4
      rw [k4'] at hke
      have HK : Hid (R = xBad 12 m.pos) := Lib.hid hke
      clear hke k1 k2 k3 k4
      go_enter Tryz.func163, Tryz.ntmps163
      go_wp2_with (first
        | ((with_reducible refine (HWR.out 12 _).mono ?_); rintro e w1 ⟨x, rfl, hxt, hxl, hE1⟩; have HXT := Lib.hid hxt; have B1 := HB.out.ev hE1; have FIN := Lib.hid (fun v0 v1 v2 v3 => rx_finish (g := w.heap.size + 1) (HE.out.trans hE1) (by omega) hxl HLT.out v0 v1 v2 v3); obtain ⟨⟨b0_, b1_, b2_, b3_⟩, g0_, g1_, g2_, g3_⟩ := B1.four; clear hxt hxl))
      (try simp only [Exit.inBlock, Exit.then])
      rw [set4_fold]
      refine bodyPost_ret (results_cell2' rfl _ _ _ _ _ rfl (B1.set4 _ _ _ _) Tryz.underlying57 rfl Tryz.sizeExpr) rfl ?_
      exact ⟨x, by rw [HK.out]; rfl, by rw [HXT.out, HK.out]; rfl, FIN.out _ _ _ _⟩

set_option maxRecDepth 100000 in
set_option maxHeartbeats 4000000 in
theorem ex_Read (m : M) (b0 : Nat) (w : World) (hL : Lies b0 [] w m) (hfair : m.t.every fairB = true) (hsz : m.t.size ≤ 16000) :
    Calls Tryz.prog 104 #[.agg #[.int .i64 m.kind, .string ⟨m.s.toArray⟩, .int .i64 m.n, .slice m.A m.kids.length m.cap, .int .i64 (m.pos : Int)]] w (RxOut (xRead m.t) w) := by
  have HP := Lib.hid (fun w1 (hE : Ev w w1) => ex_partsT m b0 w1 (hL.ev hE) hsz)
  have HR := Lib.hid (fun w1 (hE : Ev w w1) => ex_read m.dep m b0 w1 (Nat.le_refl _) (hL.ev hE) hfair hsz)
  have hc1 := hL.ms.le
  have hc2 := hL.ms.max
  obtain ⟨w0, hw0, hE0, hX, hB, hlt⟩ := bx_two w (.int .i64 m.kind) (.string ⟨m.s.toArray⟩) (.int .i64 m.n) (.slice m.A m.kids.length m.cap) (.int .i64 (m.pos : Int))
  have HE := Lib.hid hE0
  have HB := Lib.hid hB
  have HX := Lib.hid hX
  have HLT := Lib.hid hlt
  obtain ⟨⟨c0, c1, c2, c3, c4⟩, _⟩ := hX.five
  obtain ⟨⟨b0_, b1_, b2_, b3_⟩, g0_, g1_, g2_, g3_⟩ := hB.four
  generalize xRead m.t = R at *
  clear hL hfair hE0 hX hB hlt hsz
  go_enter Tryz.func104, Tryz.ntmps104
  go_wp2_with (first
    | ((with_reducible refine (HP.out _ HE.out).mono ?_); rintro e wn ⟨A, n, cap, rfl, hEn⟩; have HEN := Lib.hid hEn; obtain ⟨⟨c0, c1, c2, c3, c4⟩, _⟩ := (HX.out.ev hEn).five)
    | ((with_reducible refine (HR.out _ (HE.out.trans HEN.out)).mono ?_); rintro e w1 ⟨x, rfl, hxt, hxl, hE1⟩; have HXT := Lib.hid hxt; have B1 := HB.out.ev (HEN.out.trans hE1); have FIN := Lib.hid (fun v0 v1 v2 v3 => rx_finish (g := w.heap.size + 1) ((HE.out.trans HEN.out).trans hE1) (by omega) hxl (Nat.lt_of_lt_of_le HLT.out HEN.out.size) v0 v1 v2 v3); obtain ⟨⟨b0_, b1_, b2_, b3_⟩, g0_, g1_, g2_, g3_⟩ := B1.four; clear hxt hxl))
  (try simp only [Exit.inBlock, Exit.then])
  rw [set4_fold]
  refine bodyPost_ret (results_cell2' rfl _ _ _ _ _ rfl (B1.set4 _ _ _ _) Tryz.underlying57 rfl Tryz.sizeExpr) rfl ?_
  exact ⟨x, rfl, HXT.out, FIN.out _ _ _ _⟩
end Go.Proofs.YtojbahjebfcmgaaGreatDoor

namespace Go.Proofs.YtojbahjebfcmgaaGreatDoor
open Go.RowKit
set_option linter.unusedVariables false

theorem run_load_box2 {P : Program} {ρ : Operand → Value} {o : Oper} {x : Operand} {T : TypeId} {g : Nat} {cs : Array Value} {w : World} {d : TypeDesc} (ho : o.op = .load T x) (hx : ρ x = .pointer (some ⟨g, 0, none⟩)) (hB : Bx T g cs w)
    (hu : P.underlying T = some d) (hd : (match d with | .struct _ | .array _ _ => true | _ => false) = true) (hi : (P.info? T).map (·.size) = some cs.size) :
    (execOp ρ o).run P w = .ok (.value (.agg cs)) w := by
  have h := run_loadVar_row w g T T _ (0, 0) _ hB.blk hu hd hi
  unfold execOp
  rw [ho]
  simp only [hx, Instr.loadAt, Instr.sureAddr, Sem.run_bind, Sem.run_pure, Result.andThen_ok, h]
/-- A store into a Value's box that is no older than b. -/
def JV (b : Nat) (w w' : World) : Prop := ∃ (g : Nat) (v0 v1 v2 : Value), b ≤ g ∧ (∃ c0 c1 c2, Bx 211 g #[c0, c1, c2] w) ∧ w' = set3 g v0 v1 v2 w
/-- The columns of t, in new memory. -/
def ColsF (v : Value) (w : World) : Prop := ∃ g cs, v = .slice (some ⟨g, 0, none⟩) 3 3 ∧ w.heap[g]? = some (.cells cs 59 (0, 0)) ∧ Cs w (some ⟨g, 0, none⟩) 3 3 tcols
theorem ColsF.but {K : List Nat} {v : Value} {w w' : World} (h : ColsF v w) (hb : But K w w') (hn : ∀ g cs, w.heap[g]? = some (.cells cs 59 (0, 0)) → g ∉ K) : ColsF v w' := by
  obtain ⟨g, cs, e, hg, hC⟩ := h
  exact ⟨g, cs, e, hb.heap hg (hn g cs hg), hC.but hb fun ad ea => by cases ea; exact hn g cs hg⟩
theorem ColsF.mono : Mono ColsF := fun v w w' hE h => h.but (But.of_ev (K := []) hE) (by simp)
theorem ColsF.jump (b : Nat) : ∀ v w w', JV b w w' → ColsF v w → ColsF v w' := by
  rintro v w w' ⟨g, v0, v1, v2, _, ⟨c0, c1, c2, hB⟩, rfl⟩ h
  refine h.but (set3_but g v0 v1 v2 w) fun g' cs hg hm => ?_
  simp at hm
  subst hm
  have := hB.blk
  rw [hg] at this
  simp at this
/-- A box for a Value that is no older than b. -/
def NewV (b : Nat) (v : Value) (w : World) : Prop := ∃ g c0 c1 c2, v = .pointer (some ⟨g, 0, none⟩) ∧ Bx 211 g #[c0, c1, c2] w ∧ b ≤ g
theorem NewV.mono (b : Nat) : Mono (NewV b) := fun v w w' hE h => by
  obtain ⟨g, c0, c1, c2, e, hB, hb⟩ := h
  exact ⟨g, c0, c1, c2, e, hB.ev hE, hb⟩
theorem NewV.jump (b b' : Nat) : ∀ v w w', JV b' w w' → NewV b v w → NewV b v w' := by
  rintro v w w' ⟨g, v0, v1, v2, _, ⟨c0, c1, c2, hB⟩, rfl⟩ ⟨g', d0, d1, d2, e, hB', hb⟩
  by_cases hg : g' = g
  · subst hg
    exact ⟨g', v0, v1, v2, e, hB'.set3 _ _ _, hb⟩
  · exact ⟨g', d0, d1, d2, e, hB'.but (set3_but g v0 v1 v2 w) (by simp; exact hg), hb⟩
/-- The box behind the store. -/
def BxV (b : Nat) (k n : Int) (s : ByteArray) (v : Value) (w : World) : Prop := ∃ g, v = .pointer (some ⟨g, 0, none⟩) ∧ Bx 211 g #[.int .i64 k, .int .i64 n, .string s] w ∧ b ≤ g
theorem BxV.mono (b : Nat) (k n : Int) (s : ByteArray) : Mono (BxV b k n s) := fun v w w' hE h => by
  obtain ⟨g, e, hB, hb⟩ := h
  exact ⟨g, e, hB.ev hE, hb⟩
theorem NewV.new (b : Nat) (w : World) (h : b ≤ w.heap.size) : NewV b (.pointer (some ⟨w.heap.size, 0, none⟩)) (w.alloc (.cells #[.int .i64 0, .int .i64 0, .string ⟨#[]⟩] 211)) := ⟨_, _, _, _, rfl, vbox w, h⟩
/-- What stays: an expression in its box, and a row. -/
structure TxS2 (w0 : World) (gx : Nat) (x : M) (A : Option Addr) (n cap : Nat) (r : List V) (w : World) : Prop where
  bx : Bx 57 gx #[.int .i64 x.kind, .string ⟨x.s.toArray⟩, .int .i64 x.n, .slice x.A x.kids.length x.cap] w
  lx : Lx 0 [] w x
  v : Vs w A n cap r
  all : Ev w0 w
theorem TxS2.ev {w0 : World} {gx : Nat} {x : M} {A : Option Addr} {n cap : Nat} {r : List V} {w w' : World} (h : TxS2 w0 gx x A n cap r w) (hE : Ev w w') : TxS2 w0 gx x A n cap r w' := ⟨h.bx.ev hE, h.lx.ev hE, h.v.ev hE, h.all.trans hE⟩
end Go.Proofs.YtojbahjebfcmgaaGreatDoor
