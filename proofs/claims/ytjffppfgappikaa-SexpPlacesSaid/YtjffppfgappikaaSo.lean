/-
  Where the trees stand that are read.
-/
import Derived.Test.YtjffppfgappikaaSm
namespace Go.Proofs.Ytjffppfgappikaa
open Go.RowKit
set_option linter.unusedVariables false

/-- What stands at a leaf's first byte. -/
def leafOk (l : By) (k : Int) (s : By) (n : Int) (b : Nat) : Prop :=
  ∃ c, l[b]? = some c ∧ ((k = 2 ∧ 97 ≤ c.toNat ∧ c.toNat ≤ 122 ∧ ∃ q, s = c :: q) ∨ (k = 3 ∧ (c.toNat = 45 ∧ n ≤ 0 ∨ 48 ≤ c.toNat ∧ c.toNat ≤ 57 ∧ 0 ≤ n)) ∨ (k = 4 ∧ c.toNat = 34))
mutual
/-- A tree stands from b to e. -/
inductive Span (l : By) : T → Nat → Nat → Prop
  | leaf {k : Int} {s : By} {n : Int} {b e : Nat} : leafOk l k s n b → b < e → e ≤ l.length → Span l (.mk k s n [] b) b e
  | opn {s : By} {n : Int} {ks : List T} {b e e1 : Nat} {c : UInt8} : l[b]? = some c → c.toNat = 40 → Chain l ks (b + 1) e1 → b + 1 ≤ e1 → e1 < e → e ≤ l.length → Span l (.mk 1 s n ks b) b e
/-- Trees stand one behind the other from b to e. -/
inductive Chain (l : By) : List T → Nat → Nat → Prop
  | nil {b e : Nat} : b ≤ e → Chain l [] b e
  | cons {b tb te e : Nat} {t : T} {ks : List T} : b ≤ tb → Span l t tb te → Chain l ks te e → Chain l (t :: ks) b e
end
theorem Span.pos {l : By} {t : T} {b e : Nat} (h : Span l t b e) : t.pos = b ∧ b < e ∧ e ≤ l.length ∧ ∃ c, l[b]? = some c := by
  cases h with
  | leaf h1 h2 h3 =>
    obtain ⟨c, hc, _⟩ := h1
    exact ⟨rfl, h2, h3, c, hc⟩
  | opn h1 h2 h3 h4 h5 h6 => exact ⟨rfl, by omega, h6, _, h1⟩
theorem Chain.le {l : By} : ∀ {ks : List T} {b e : Nat}, Chain l ks b e → b ≤ e
  | [], b, e, h => by cases h with | nil h => exact h
  | t :: ks, b, e, h => by
    cases h with
    | cons h1 h2 h3 =>
      have := h2.pos
      have := Chain.le h3
      omega
theorem Chain.wider {l : By} : ∀ {ks : List T} {b e e' : Nat}, Chain l ks b e → e ≤ e' → Chain l ks b e'
  | [], b, e, e', h, he => by cases h with | nil h => exact .nil (by omega)
  | t :: ks, b, e, e', h, he => by
    cases h with
    | cons h1 h2 h3 => exact .cons h1 h2 (Chain.wider h3 he)
theorem Chain.snoc {l : By} : ∀ {ks : List T} {b x tb te : Nat} {t : T}, Chain l ks b x → x ≤ tb → Span l t tb te → Chain l (ks ++ [t]) b te
  | [], b, x, tb, te, t, h, hx, ht => by cases h with | nil h => exact .cons (by omega) ht (.nil (Nat.le_refl _))
  | t' :: ks, b, x, tb, te, t, h, hx, ht => by
    cases h with
    | cons h1 h2 h3 => exact .cons h1 h2 (Chain.snoc h3 hx ht)
theorem Chain.at {l : By} : ∀ {ks : List T} {b e : Nat}, Chain l ks b e → ∀ i t, ks[i]? = some t → ∃ te, Span l t t.pos te ∧ b ≤ t.pos ∧ te ≤ e ∧ ∀ t', ks[i + 1]? = some t' → te ≤ t'.pos ∧ t'.pos < e
  | [], b, e, h, i, t, hi => by simp at hi
  | a :: ks, b, e, h, 0, t, hi => by
    simp at hi
    subst hi
    cases h with
    | cons h1 h2 h3 =>
      have hp := h2.pos
      rw [← hp.1] at h2 h1
      refine ⟨_, h2, h1, h3.le, fun t' ht' => ?_⟩
      cases ks with
      | nil => simp at ht'
      | cons b ks =>
        simp at ht'
        subst ht'
        cases h3 with
        | cons g1 g2 g3 =>
          have := g2.pos
          have := g3.le
          omega
  | a :: ks, b, e, h, i + 1, t, hi => by
    cases h with
    | cons h1 h2 h3 =>
      obtain ⟨te, g1, g2, g3, g4⟩ := Chain.at h3 i t (by simpa using hi)
      have := h2.pos
      exact ⟨te, g1, by omega, g3, fun t' ht' => g4 t' (by simpa using ht')⟩

/-- What is open, the innermost first: its Kids stand in their order up to where one reads. -/
def Stk (l : By) : List T → Nat → Prop
  | [], _ => False
  | [e], cur => Chain l e.kids 0 cur
  | e :: e' :: r, cur => e.kind = 1 ∧ (∃ c, l[e.pos]? = some c ∧ c.toNat = 40) ∧ Chain l e.kids (e.pos + 1) cur ∧ e.pos + 1 ≤ cur ∧ Stk l (e' :: r) e.pos
theorem Stk.wider {l : By} : ∀ {os : List T} {cur cur' : Nat}, Stk l os cur → cur ≤ cur' → Stk l os cur'
  | [], _, _, h, _ => h.elim
  | [e], cur, cur', h, hc => Chain.wider h hc
  | e :: e' :: r, cur, cur', h, hc => ⟨h.1, h.2.1, h.2.2.1.wider hc, by have := h.2.2.2.1; omega, h.2.2.2.2⟩
theorem Stk.put {l : By} {e : T} {r : List T} {i j te : Nat} {t : T} (h : Stk l (e :: r) i) (hij : i ≤ j) (ht : Span l t j te) : Stk l (e.add t :: r) te := by
  have hte := ht.pos
  cases r with
  | nil => exact Chain.snoc (show Chain l e.kids 0 i from h) hij ht
  | cons e' r => exact ⟨h.1, h.2.1, (h.2.2.1).snoc hij ht, by have := h.2.2.2.1; show e.pos + 1 ≤ te; omega, h.2.2.2.2⟩
theorem sxPut_rev (os : List T) (e : T) (r : List T) (t : T) (h : os.reverse = e :: r) : (sxPut os t).reverse = e.add t :: r := by
  have : os = r.reverse ++ [e] := by rw [← List.reverse_reverse os, h, List.reverse_cons]
  rw [this, sxPut_snoc]
  simp
theorem Stk.take {l : By} {os : List T} {i j : Nat} {c : UInt8} {x : Tk} (h : Stk l os.reverse i) (hij : i ≤ j) (hc : l[j]? = some c) (hok : ScanOk c (l.drop j) x) (hw : x.why = 0) (hk : x.kind = -1 → os.length ≠ 1) :
    Stk l (sxTake os (x.tree j)).reverse (j + x.size) := by
  obtain ⟨h1, h2, h3⟩ := hok.good hw
  have hjl := (List.getElem?_eq_some_iff.1 hc).1
  rw [List.length_drop] at h2
  have htk : (x.tree j).kind = x.kind := rfl
  unfold sxTake
  rw [htk]
  cases hr : os.reverse with
  | nil => rw [hr] at h; exact h.elim
  | cons e r =>
    rw [hr] at h
    by_cases k1 : x.kind = 1
    · rw [if_pos (by rw [k1]; rfl), List.reverse_append, hr]
      have hc40 : c.toNat = 40 := by
        rcases h3 with ⟨_, h4⟩ | h4 | ⟨h4, _⟩ | ⟨h4, _⟩ | ⟨h4, _⟩
        · exact h4
        · rw [k1] at h4; cases h4
        · rw [k1] at h4; cases h4
        · rw [k1] at h4; cases h4
        · rw [k1] at h4; cases h4
      exact ⟨k1, ⟨c, hc, hc40⟩, .nil (by show j + 1 ≤ j + x.size; omega), by show j + 1 ≤ j + x.size; omega, h.wider hij⟩
    · rw [if_neg (by simpa using k1)]
      by_cases k2 : x.kind = -1
      · rw [if_pos (by rw [k2]; rfl)]
        have hos : os = r.reverse ++ [e] := by rw [← List.reverse_reverse os, hr, List.reverse_cons]
        have hgl : os.getLast? = some e := by rw [hos]; simp
        have hdl : os.dropLast = r.reverse := by rw [hos]; simp
        rw [hgl, hdl]
        simp only []
        cases r with
        | nil =>
          exfalso
          apply hk k2
          rw [hos]; rfl
        | cons e' r =>
          obtain ⟨g1, ⟨c', g2, g3⟩, g4, g5, g6⟩ := h
          have hsp : Span l e e.pos (j + x.size) := by
            obtain ⟨k, s, n, ks, p⟩ := e
            simp only [T.kind] at g1
            subst g1
            exact .opn g2 g3 g4 g5 (by omega) (by omega)
          rw [sxPut_rev (e' :: r).reverse e' r e (by simp)]
          exact g6.put (Nat.le_refl _) hsp
      · rw [if_neg (by simpa using k2), sxPut_rev os e r _ hr]
        refine h.put hij (.leaf ⟨c, hc, ?_⟩ (by omega) (by omega))
        rcases h3 with ⟨h4, _⟩ | h4 | h4 | h4 | h4
        · exact absurd h4 k1
        · exact absurd h4 k2
        · exact .inl h4
        · exact .inr (.inl h4)
        · exact .inr (.inr h4)
theorem Stk.root {l : By} : ∀ {os : List T} {cur : Nat} {e : T} {r : List T}, Stk l os cur → os.reverse = e :: r → ∃ cur', Chain l e.kids 0 cur'
  | [], _, _, _, h, _ => h.elim
  | [a], cur, e, r, h, hr => by
    simp at hr
    rw [← hr.1]
    exact ⟨cur, h⟩
  | a :: a' :: os, cur, e, r, h, hr => by
    rw [List.reverse_cons] at hr
    cases hq : (a' :: os).reverse with
    | nil => simp at hq
    | cons b q =>
      rw [hq] at hr
      simp at hr
      rw [← hr.1]
      exact Stk.root h.2.2.2.2 hq
theorem sxGo_placed (l : By) : ∀ (f : Nat) (os : List T) (i : Nat), Stk l os.reverse i → i ≤ l.length →
    ((sxGo f os (l.drop i) i).2.1 ≠ 0 → (sxGo f os (l.drop i) i).2.2 ≤ l.length) ∧ ((sxGo f os (l.drop i) i).2.1 = 0 → ∃ b e, Span l (sxGo f os (l.drop i) i).1 b e)
  | 0, os, i, h, hi => ⟨fun _ => Nat.zero_le _, fun h => by cases h⟩
  | f + 1, os, i, h, hi => by
    unfold sxGo
    have hp := sxRun_le sxBlank (l.drop i)
    rw [List.length_drop] at hp
    rw [List.drop_drop]
    generalize sxRun sxBlank (l.drop i) = p at *
    have hij : i ≤ i + p := by omega
    have hj : i + p ≤ l.length := by omega
    generalize i + p = j at *
    cases hd : l.drop j with
    | nil =>
      simp only []
      unfold sxWhole
      cases hos : os with
      | nil => rw [hos] at h; exact h.elim
      | cons e r =>
        simp only []
        cases hk : e.kids with
        | nil => exact ⟨fun _ => hj, fun h => by cases h⟩
        | cons t ks =>
          refine ⟨fun h => absurd rfl h, fun _ => ?_⟩
          obtain ⟨cur', hch⟩ := Stk.root h (e := e) (r := r) (by rw [List.reverse_reverse, hos])
          rw [hk] at hch
          cases hch with
          | cons g1 g2 g3 => exact ⟨_, _, g2⟩
    | cons c q =>
      simp only []
      have hc : l[j]? = some c := by
        have := List.getElem?_drop (xs := l) (i := j) (j := 0)
        rw [hd] at this
        simpa using this.symm
      have hok : ScanOk c (l.drop j) (sxScan (c :: q)) := by rw [hd]; exact sxScan_ok c q
      have hlen : (c :: q).length = l.length - j := by rw [← hd, List.length_drop]
      have hjf := fun h => sxJudge_fault (os := os) hok h
      rw [hd, hlen] at hjf
      have hjo := fun h => sxJudge_ok (os := os) hok h
      by_cases hw : (sxJudge os (sxScan (c :: q))).1 = 0
      · rw [if_pos (by rw [hw]; rfl)]
        obtain ⟨hy, hk, _, _⟩ := hjo hw
        obtain ⟨hz1, hz2, _⟩ := hok.good hy
        rw [hd, hlen] at hz2
        have hst := h.take hij hc hok hy hk
        rw [← hd, List.drop_drop]
        rw [hd]
        exact sxGo_placed l f _ _ hst (by omega)
      · rw [if_neg (by simpa using hw)]
        refine ⟨fun _ => ?_, fun h => absurd h hw⟩
        have := hjf hw
        show j + _ ≤ l.length
        omega
theorem sxRead_placed (l : By) : ((sxRead l).2.1 ≠ 0 → (sxRead l).2.2 ≤ l.length) ∧ ((sxRead l).2.1 = 0 → ∃ b e, Span l (sxRead l).1 b e) := by
  unfold sxRead
  by_cases h : 600 < l.length
  · rw [if_pos h]
    exact ⟨fun _ => Nat.zero_le _, fun h => by cases h⟩
  · rw [if_neg h]
    exact sxGo_placed l _ [sxZero] 0 (.nil (Nat.le_refl _)) (Nat.zero_le _)
end Go.Proofs.Ytjffppfgappikaa
