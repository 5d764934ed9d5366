/-
  Texts that belong together: Package eval: Right and named: of tables that are right. Package eval: groups in memory; which group a row belongs to. Package eval: groups. Package eval: aggregate. Sets of rows by their sums: a set is what its Nets add up to. Sets that change by one item, in plain words: they are known by their sums. The document's own tallies (chapter 3), of whole parts. Package eval: group. Package eval: step: tables, groups. Package eval: of, node by node. The document's Make (chapter 6), its steps in plain words and in memory. Package check: the sort of two tables that stand the other way round; repeated, Defs, Right of them.
-/
import Derived.Test.YthpiobkghfdkkaaGreatZ41O
import Derived.Test.YthpiobkghfdkkaaGreatZ39O
import Derived.Test.YthpiobkghfdkkaaGreatZ34O
import Derived.StillTailTactics
import Derived.Test.YthpiobkghfdkkaaGreatZ2O
import Derived.Deep.DeepCutAuto
import Derived.Test.YthpiobkghfdkkaaGreatZ22O
import Derived.Test.YthpiobkghfdkkaaGreatZ19O
import Derived.Test.YthpiobkghfdkkaaGreatZ35O
import Derived.Test.YthpiobkghfdkkaaGreatZ3O
import Derived.Test.YthpiobkghfdkkaaGreatZ17O
import Derived.Test.YthpiobkghfdkkaaGreatZ20O
namespace Go.Proofs.YthpiobkghfdkkaaGreat
open Go.RowKit
set_option linter.unusedVariables false

/-- Tables that are right. -/
structure TsRight (l : List TM) : Prop where
  fit : ∀ t ∈ l, TFit t
  cols : ∀ t ∈ l, t.cols.length ≤ 6 ∧ 0 < t.cols.length
  ok : DefsOk (l.map TM.df)
  len : l.length ≤ 1000

set_option maxRecDepth 100000 in
set_option maxHeartbeats 8000000 in
theorem ev_Right {A : Option Addr} {n cap : Nat} {l : List TM} (w : World) (h : TsAt w A n cap l) (hr : TsRight l) :
    Calls Tryz.prog 57 #[.slice A n cap] w fun e w' => e = .returned (.bool true) ∧ Ev w w' := by
  have hl := h.sl.len
  have HD := Lib.hid (ev_Defs w h (by have := hr.len; omega) fun t ht => by have := hr.cols t ht; omega)
  unfold DefsOut at HD
  have HO := Lib.hid hr.ok
  have HC := Lib.hid (fun w1 (hE : Ev w w1) => ev_containsNone w1 (h.ev hE) hr.fit)
  clear h hr
  go_enter Tryz.func57, Tryz.ntmps57
  go_wp2_with (first
    | ((with_reducible refine (HD.out).mono ?_); rintro e w1 ⟨D, A1, n1, c1, rfl, hD1, hD2, hD3, hE1⟩; have HE1 := Lib.hid hE1; have HK := Lib.hid (HO.out D A1 n1 c1 w1 hD1 hD2 hD3); clear hD1 hD2 hD3 hE1)
    | ((with_reducible refine (HK.out).mono ?_); rintro e w2 ⟨rfl, hE2⟩; have HE2 := Lib.hid (HE1.out.trans hE2); clear hE2)
    | ((with_reducible refine (HC.out _ HE2.out).mono ?_); rintro e w3 ⟨rfl, hE3⟩))
  go_ret
  exact ⟨rfl, HE2.out.trans hE3⟩
theorem Tryz.infoTable : (Tryz.prog.info? 45).map (fun i => (i.zero, i.size, i.bytes)) = some (some (.agg #[.string ⟨#[]⟩, .slice none 0 0, .slice none 0 0]), 3, 64) := by kernel_rfl

end Go.Proofs.YthpiobkghfdkkaaGreat

namespace Go.Proofs.YthpiobkghfdkkaaGreat
open Go.RowKit
set_option linter.unusedVariables false

def gcs (x : Sle J) : List Value := [.slice x.A x.l.length x.cap]
theorem encJ : Enc 2 jcells := ⟨by omega, fun _ => rfl, fun x u hu => by
  simp [jcells] at hu
  rcases hu with rfl | rfl <;> rfl⟩
end Go.Proofs.YthpiobkghfdkkaaGreat

namespace Go.Proofs.YthpiobkghfdkkaaGreat
open Go.RowKit
set_option linter.unusedVariables false

end Go.Proofs.YthpiobkghfdkkaaGreat

namespace Go.Proofs.YthpiobkghfdkkaaGreat
open Go.RowKit
set_option linter.unusedVariables false

theorem setFrom_iff : ∀ (l : List I) (prev : Option (List V)), setFrom prev l = true ↔ (∀ x ∈ l, okItem x = true) ∧ l.Pairwise (fun x y => lessR x.1 y.1 = true) ∧ ∀ r, prev = some r → ∀ x ∈ l, lessR r x.1 = true
  | [], prev => by cases prev <;> simp [setFrom]
  | x :: l, prev => by
    have ih := setFrom_iff l (some x.1)
    have key : setFrom (some x.1) l = true ↔ (∀ y ∈ l, okItem y = true) ∧ l.Pairwise (fun x y => lessR x.1 y.1 = true) ∧ ∀ y ∈ l, lessR x.1 y.1 = true := by
      rw [ih]
      simp
    cases prev with
    | none =>
      simp only [setFrom, Bool.and_eq_true, key, List.forall_mem_cons, List.pairwise_cons]
      constructor
      · rintro ⟨h1, h2, h3, h4⟩
        exact ⟨⟨h1, h2⟩, ⟨h4, h3⟩, fun r e => by cases e⟩
      · rintro ⟨⟨h1, h2⟩, ⟨h4, h3⟩, _⟩
        exact ⟨h1, h2, h3, h4⟩
    | some r =>
      simp only [setFrom, Bool.and_eq_true, key, List.forall_mem_cons, List.pairwise_cons]
      constructor
      · rintro ⟨h1, h0, h2, h3, h4⟩
        refine ⟨⟨h1, h2⟩, ⟨h4, h3⟩, fun r' e => ?_⟩
        injection e with e
        subst e
        exact ⟨h0, fun y hy => lessR_trans h0 (h4 y hy)⟩
      · rintro ⟨⟨h1, h2⟩, ⟨h4, h3⟩, h5⟩
        exact ⟨h1, (h5 r rfl).1, h2, h3, h4⟩
end Go.Proofs.YthpiobkghfdkkaaGreat

namespace Go.Proofs.YthpiobkghfdkkaaGreat
open Go.RowKit
set_option linter.unusedVariables false

def netI (x : I) : Int := x.2.1 - x.2.2
/-- What the Nets add up to, each times what its row is worth. -/
def netS (f : List V → Int) (l : List I) : Int := (l.map fun x => f x.1 * netI x).sum
theorem netS_nil (f : List V → Int) : netS f [] = 0 := rfl
theorem netS_cons (f : List V → Int) (x : I) (l : List I) : netS f (x :: l) = f x.1 * netI x + netS f l := by simp [netS]
theorem netS_append (f : List V → Int) (l m : List I) : netS f (l ++ m) = netS f l + netS f m := by simp [netS]
theorem netS_same {f : List V → Int} {r : List V} : ∀ q : List I, (∀ y ∈ q, y.1 = r) → netS f q = f r * netS (fun _ => 1) q
  | [], _ => by simp [netS]
  | y :: q, h => by
    rw [netS_cons, netS_cons, netS_same q fun z hz => h z (List.mem_cons_of_mem _ hz), h y List.mem_cons_self, Int.mul_add, Int.one_mul]
theorem sumN_some : ∀ (l : List I) (n k : Int), okNet n = true → sumN n l = some k → k = n + netS (fun _ => 1) l ∧ okNet k = true
  | [], n, k, hn, h => by
    unfold sumN at h
    obtain rfl := Option.some.inj h
    exact ⟨by simp [netS], hn⟩
  | x :: l, n, k, hn, h => by
    unfold sumN at h
    cases ho : okNet (n + (x.2.1 - x.2.2))
    · rw [ho] at h; cases h
    · rw [ho] at h
      obtain ⟨h1, h2⟩ := sumN_some l _ k ho h
      refine ⟨?_, h2⟩
      rw [netS_cons, h1]
      unfold netI
      omega
/-- A list that rises: how many at its beginning have the first row; all behind them have greater ones. -/
theorem rep_split {x : I} {l : List I} (hr : Rises keyI (x :: l)) (hrt : ∀ y ∈ x :: l, rightR y.1 = true) : ∃ k, repF (x :: l) = k + 1 ∧ (∀ y ∈ l.take k, y.1 = x.1) ∧ ∀ y ∈ l.drop k, lessR x.1 y.1 = true := by
  obtain ⟨k, hkd⟩ : ∃ k, k = (l.takeWhile fun y => decide (y.1 = x.1)).length := ⟨_, rfl⟩
  have hrep : repF (x :: l) = k + 1 := by show 1 + _ = _; rw [hkd]; omega
  have htw : l.take k = l.takeWhile fun y => decide (y.1 = x.1) := by
    rw [hkd]
    exact List.prefix_iff_eq_take.1 (List.takeWhile_prefix _) |>.symm
  have hdw : l.drop k = l.dropWhile fun y => decide (y.1 = x.1) := by
    have h1 := List.takeWhile_append_dropWhile (p := fun y : I => decide (y.1 = x.1)) (l := l)
    have h2 := List.take_append_drop k l
    rw [htw] at h2
    exact List.append_cancel_left (h2.trans h1.symm)
  have hsame : ∀ y ∈ l.take k, y.1 = x.1 := fun y hy => by
    rw [htw] at hy
    simpa using List.all_eq_true.1 List.all_takeWhile y hy
  have hpw := List.pairwise_cons.1 hr
  have hx := hrt x List.mem_cons_self
  have hra : ∀ y ∈ l, rightR y.1 = true := fun y hy => hrt y (List.mem_cons_of_mem _ hy)
  have hdm : ∀ y ∈ l.drop k, y ∈ l := fun y hy => List.mem_of_mem_drop hy
  refine ⟨k, hrep, hsame, ?_⟩
  have hd0 : Rises keyI (l.drop k) := hpw.2.sublist (List.drop_sublist k l)
  cases hd : l.drop k with
  | nil => simp
  | cons z q =>
    have hzm : z ∈ l := hdm z (by rw [hd]; simp)
    have hz : z.1 ≠ x.1 := by
      have h1 := hd
      rw [hdw] at h1
      have h2 := List.head?_dropWhile_not (fun y : I => decide (y.1 = x.1)) l
      rw [h1] at h2
      simpa using h2
    intro y hy
    have hym : y ∈ l := hdm y (by rw [hd]; exact hy)
    have h1 : lessR y.1 x.1 = false := hpw.1 y hym
    have hne : y.1 ≠ x.1 := by
      rcases List.mem_cons.1 hy with rfl | hy
      · exact hz
      · intro e
        rw [hd] at hd0
        have h3 : lessR y.1 z.1 = false := (List.pairwise_cons.1 hd0).1 y hy
        rw [e] at h3
        have h4 : lessR z.1 x.1 = false := hpw.1 z hzm
        exact hz (nless_anti (hra z hzm) hx h3 h4)
    have h5 := lessR_tri hx (hra y hym) (Ne.symm hne)
    rw [h1] at h5
    exact h5
theorem kept_red {t : Int} (h0 : t ≠ 0) (hk : okNet t = true) : keptP (redP t) (redQ t) = true := by
  have h1 := okNet_iff.1 hk
  have hp : partB (redP t) = true := partB_iff.2 (by unfold Part redP; omega)
  have hq : partB (redQ t) = true := partB_iff.2 (by unfold Part redQ; omega)
  unfold keptP
  rw [hp, hq]
  unfold keptB redP redQ
  simp
  omega
theorem net_red (r : List V) (t : Int) : netI (r, redP t, redQ t) = t := by unfold netI redP redQ; simp only; omega
/-- What a list that rises is made to. -/
theorem group_net : ∀ (N : Nat) (m s : List I) (prev : Option (List V)), m.length ≤ N → (∀ x ∈ m, rightR x.1 = true) → Rises keyI m → (∀ r, prev = some r → ∀ y ∈ m, lessR r y.1 = true) → groupF m.length m = some s →
    (∀ f, netS f s = netS f m) ∧ setFrom prev s = true ∧ ∀ x ∈ s, ∃ y ∈ m, y.1 = x.1
  | N, [], s, prev, _, _, _, _, hg => by
    obtain rfl := Option.some.inj hg
    exact ⟨fun _ => rfl, by cases prev <;> rfl, fun _ h => by cases h⟩
  | 0, x :: l, s, prev, hN, _, _, _, _ => by simp at hN
  | N + 1, x :: l, s, prev, hN, hrt, hr, hp, hg => by
    obtain ⟨k, hrep, hsame, hless⟩ := rep_split hr hrt
    have hdm : ∀ y ∈ l.drop k, y ∈ x :: l := fun y hy => List.mem_cons_of_mem _ (List.mem_of_mem_drop hy)
    have hpw := List.pairwise_cons.1 hr
    rw [groupF_step, hrep, List.take_succ_cons, List.drop_succ_cons] at hg
    cases hs : sumN 0 (x :: l.take k) with
    | none => rw [hs] at hg; cases hg
    | some t =>
      rw [hs] at hg
      simp only at hg
      cases hq : groupF (l.drop k).length (l.drop k) with
      | none => rw [hq] at hg; cases hg
      | some q =>
        rw [hq] at hg
        simp only [Option.map_some, Option.some.injEq] at hg
        obtain ⟨ht, hok⟩ := sumN_some _ 0 t (by decide) hs
        have hd := fun prev' h' => group_net N (l.drop k) q prev' (by rw [List.length_drop]; simp at hN; omega) (fun y hy => hrt y (hdm y hy)) (hpw.2.sublist (List.drop_sublist k l)) h' hq
        have h3 : x :: l = (x :: l.take k) ++ l.drop k := by rw [List.cons_append, List.take_append_drop]
        have hsm : ∀ f, netS f (x :: l.take k) = f x.1 * t := fun f => by
          rw [netS_same (r := x.1) _ fun y hy => (List.mem_cons.1 hy).elim (fun e => by rw [e]) (hsame y), ht, Int.zero_add]
        by_cases h0 : t = 0
        · rw [if_pos h0] at hg
          subst hg
          obtain ⟨a, b, c⟩ := hd prev fun r e y hy => hp r e y (hdm y hy)
          refine ⟨fun f => ?_, b, fun y hy => ?_⟩
          · rw [h3, netS_append, hsm, h0, a f]
            simp
          · obtain ⟨z, hz, e⟩ := c y hy
            exact ⟨z, hdm z hz, e⟩
        · rw [if_neg h0] at hg
          subst hg
          obtain ⟨a, b, c⟩ := hd (some x.1) fun r e y hy => by
            injection e with e
            rw [← e]
            exact hless y hy
          refine ⟨fun f => ?_, ?_, fun y hy => ?_⟩
          · rw [h3, netS_append, hsm, netS_cons, net_red, a f]
          · have hoki : okItem (x.1, redP t, redQ t) = true := by
              unfold okItem
              rw [hrt x List.mem_cons_self, kept_red h0 hok]
              rfl
            cases prev with
            | none => simp only [setFrom, hoki, b, Bool.and_self]
            | some r => simp only [setFrom, hoki, b, hp r rfl x List.mem_cons_self, Bool.and_self]
          · rcases List.mem_cons.1 hy with rfl | hy
            · exact ⟨x, List.mem_cons_self, rfl⟩
            · obtain ⟨z, hz, e⟩ := c y hy
              exact ⟨z, hdm z hz, e⟩
theorem make_net {l s : List I} (h : makeF l = some s) (hr : ∀ x ∈ l, rightR x.1 = true) : (∀ f, netS f s = netS f l) ∧ setB s = true ∧ ∀ x ∈ s, ∃ y ∈ l, y.1 = x.1 := by
  have hl : (sortF keyI l).length = l.length := (sortF_alike (key := keyI) l).length
  unfold makeF at h
  rw [← hl] at h
  obtain ⟨h1, h2, h3⟩ := group_net _ (sortF keyI l) s none (Nat.le_refl _) (fun x hx => hr x ((sortF_mem l x).1 hx)) (sortF_rises fun x hx => hr x hx) (fun r e => by cases e) h
  refine ⟨fun f => ?_, h2, fun x hx => ?_⟩
  · rw [h1 f]
    exact sortF_sum (fun x => f x.1 * netI x) l
  · obtain ⟨y, hy, e⟩ := h3 x hx
    exact ⟨y, (sortF_mem l y).1 hy, e⟩
/-- What a row is worth that asks for one row alone. -/
def oneRow (r : List V) (q : List V) : Int := if q = r then 1 else 0
theorem netS_no {r : List V} : ∀ l : List I, (∀ y ∈ l, y.1 ≠ r) → netS (oneRow r) l = 0
  | [], _ => rfl
  | y :: l, h => by
    rw [netS_cons, netS_no l fun z hz => h z (List.mem_cons_of_mem _ hz)]
    unfold oneRow
    rw [if_neg (h y List.mem_cons_self)]
    simp
theorem netS_one {x : I} {l : List I} (h : ∀ y ∈ l, y.1 ≠ x.1) : netS (oneRow x.1) (x :: l) = netI x := by
  rw [netS_cons, netS_no l h]
  unfold oneRow
  simp
theorem ok_net {x : I} (h : okItem x = true) : netI x ≠ 0 ∧ x = (x.1, redP (netI x), redQ (netI x)) := by
  unfold okItem keptP at h
  simp only [Bool.and_eq_true] at h
  obtain ⟨_, ⟨hp, hq⟩, hk⟩ := h
  have h1 := partB_iff.1 hp
  have h2 := partB_iff.1 hq
  obtain ⟨r, p, q⟩ := x
  unfold keptB at hk
  unfold Part at h1 h2
  simp at hk h1 h2
  unfold netI redP redQ
  simp only [Prod.mk.injEq, true_and]
  rcases hk.2 with e | e
  · subst e
    exact ⟨by omega, by omega, by omega⟩
  · subst e
    exact ⟨by omega, by omega, by omega⟩
theorem less_ne {a b : List V} (h : lessR a b = true) : b ≠ a := fun e => by
  rw [e, lessR_self] at h
  cases h
/-- A set is known by its sums. -/
theorem set_unique : ∀ (s s' : List I), (∀ x ∈ s, okItem x = true) → s.Pairwise (fun x y => lessR x.1 y.1 = true) → (∀ x ∈ s', okItem x = true) → s'.Pairwise (fun x y => lessR x.1 y.1 = true) → (∀ f, netS f s = netS f s') → s = s'
  | [], [], _, _, _, _, _ => rfl
  | [], y :: t, _, _, h1, h2, h => by
    have hp := List.pairwise_cons.1 h2
    have e := h (oneRow y.1)
    rw [netS_one fun z hz => less_ne (hp.1 z hz), netS_nil] at e
    exact absurd e.symm (ok_net (h1 y List.mem_cons_self)).1
  | x :: s, [], h1, h2, _, _, h => by
    have hp := List.pairwise_cons.1 h2
    have e := h (oneRow x.1)
    rw [netS_one fun z hz => less_ne (hp.1 z hz), netS_nil] at e
    exact absurd e (ok_net (h1 x List.mem_cons_self)).1
  | x :: s, y :: t, h1, h2, k1, k2, h => by
    have hp := List.pairwise_cons.1 h2
    have kp := List.pairwise_cons.1 k2
    have hx := ok_net (h1 x List.mem_cons_self)
    have hy := ok_net (k1 y List.mem_cons_self)
    have rx : rightR x.1 = true := by have := h1 x List.mem_cons_self; unfold okItem at this; simp only [Bool.and_eq_true] at this; exact this.1
    have ry : rightR y.1 = true := by have := k1 y List.mem_cons_self; unfold okItem at this; simp only [Bool.and_eq_true] at this; exact this.1
    by_cases e : x.1 = y.1
    · have e1 := h (oneRow x.1)
      rw [netS_one fun z hz => less_ne (hp.1 z hz), e, netS_one fun z hz => less_ne (kp.1 z hz)] at e1
      have e2 : x = y := by rw [hx.2, hy.2, e, e1]
      subst e2
      rw [set_unique s t (fun z hz => h1 z (List.mem_cons_of_mem _ hz)) hp.2 (fun z hz => k1 z (List.mem_cons_of_mem _ hz)) kp.2 fun f => by
        have h3 := h f
        rw [netS_cons, netS_cons] at h3
        omega]
    · exfalso
      cases hl : lessR x.1 y.1
      · have hl2 := lessR_tri rx ry e
        rw [hl] at hl2
        have hl3 : lessR y.1 x.1 = true := by simpa using hl2
        have e1 := h (oneRow y.1)
        rw [netS_one fun z hz => less_ne (kp.1 z hz), netS_no (x :: s) fun z hz => by
          rcases List.mem_cons.1 hz with rfl | hz
          · exact e
          · exact less_ne (lessR_trans hl3 (hp.1 z hz))] at e1
        exact hy.1 e1.symm
      · have e1 := h (oneRow x.1)
        rw [netS_one fun z hz => less_ne (hp.1 z hz), netS_no (y :: t) fun z hz => by
          rcases List.mem_cons.1 hz with rfl | hz
          · exact Ne.symm e
          · exact less_ne (lessR_trans hl (kp.1 z hz))] at e1
        exact hx.1 e1
theorem setB_unique {s s' : List I} (hs : setB s = true) (hs' : setB s' = true) (h : ∀ f, netS f s = netS f s') : s = s' := by
  unfold setB at hs hs'
  rw [setFrom_iff] at hs hs'
  exact set_unique s s' hs.1 hs.2.1 hs'.1 hs'.2.1 h
end Go.Proofs.YthpiobkghfdkkaaGreat

namespace Go.Proofs.YthpiobkghfdkkaaGreat
open Go.RowKit
set_option linter.unusedVariables false

/-- How much a list tells, whatever its signs. -/
def absS (l : List I) : Nat := (l.map fun x => (netI x).natAbs).sum
theorem absS_nil : absS [] = 0 := rfl
theorem absS_cons (x : I) (l : List I) : absS (x :: l) = (netI x).natAbs + absS l := by simp [absS]
theorem absS_append (l m : List I) : absS (l ++ m) = absS l + absS m := by simp [absS]
theorem natsum_int : ∀ l : List Nat, ((l.sum : Nat) : Int) = (l.map fun (n : Nat) => (n : Int)).sum
  | [] => rfl
  | x :: l => by rw [List.sum_cons, List.map_cons, List.sum_cons, ← natsum_int l]; omega
theorem absS_sort (l : List I) : absS (sortF keyI l) = absS l := by
  have h := sortF_sum (fun x => ((netI x).natAbs : Int)) l
  unfold absS
  have e : ∀ m : List I, (((m.map fun x => (netI x).natAbs).sum : Nat) : Int) = (m.map fun x => ((netI x).natAbs : Int)).sum := fun m => by
    rw [natsum_int, List.map_map]
    rfl
  have h1 := e (sortF keyI l)
  have h2 := e l
  omega
theorem sumN_small : ∀ (l : List I) (n : Int), n.natAbs + absS l ≤ 1125899906842624 → sumN n l = some (n + netS (fun _ => 1) l)
  | [], n, _ => by simp [sumN, netS]
  | x :: l, n, h => by
    rw [absS_cons] at h
    have h1 : okNet (n + (x.2.1 - x.2.2)) = true := okNet_iff.2 (by unfold netI at h; omega)
    have h2 := sumN_small l (n + (x.2.1 - x.2.2)) (by unfold netI at h; omega)
    simp only [sumN, h1, cond_true]
    rw [h2, netS_cons, Int.one_mul]
    unfold netI
    congr 1
    omega
theorem group_small : ∀ (N : Nat) (m : List I), m.length ≤ N → absS m ≤ 1125899906842624 → ∃ s, groupF m.length m = some s ∧ absS s ≤ absS m
  | _, [], _, _ => ⟨[], rfl, Nat.le_refl _⟩
  | 0, x :: l, h, _ => by simp at h
  | N + 1, x :: l, hN, ha => by
    have hk := repF_pos x l
    obtain ⟨k, hkd⟩ : ∃ k, repF (x :: l) = k + 1 := ⟨repF (x :: l) - 1, by omega⟩
    have hsp : x :: l = (x :: l).take (k + 1) ++ (x :: l).drop (k + 1) := (List.take_append_drop _ _).symm
    have hab := congrArg absS hsp
    rw [absS_append] at hab
    have hs := sumN_small ((x :: l).take (k + 1)) 0 (by omega)
    obtain ⟨q, hq, hqa⟩ := group_small N ((x :: l).drop (k + 1)) (by rw [List.length_drop]; simp only [List.length_cons] at hN ⊢; omega) (by omega)
    rw [groupF_step, hkd, hs]
    simp only [hq, Option.map_some]
    refine ⟨_, rfl, ?_⟩
    have hle : ∀ m : List I, (netS (fun _ => 1) m).natAbs ≤ absS m := fun m => by
      induction m with
      | nil => simp [netS, absS]
      | cons y m ih => rw [netS_cons, absS_cons, Int.one_mul]; omega
    have h9 := hle ((x :: l).take (k + 1))
    split
    · omega
    · rw [absS_cons, net_red]
      omega
theorem make_small (l : List I) (ha : absS l ≤ 1125899906842624) : ∃ s, makeF l = some s ∧ absS s ≤ absS l := by
  have hl : (sortF keyI l).length = l.length := (sortF_alike (key := keyI) l).length
  obtain ⟨s, h1, h2⟩ := group_small _ (sortF keyI l) (Nat.le_refl _) (by rw [absS_sort]; exact ha)
  refine ⟨s, ?_, by rw [absS_sort] at h2; exact h2⟩
  unfold makeF
  rw [← hl]
  exact h1
/-- A set that holds little. -/
structure ZOk (n : Nat) (S : List I) : Prop where
  set : setB S = true
  small : absS S ≤ n
theorem ZOk.more {n m : Nat} {S : List I} (h : ZOk n S) (hm : n ≤ m) : ZOk m S := ⟨h.set, Nat.le_trans h.small hm⟩
theorem ZOk.nil_ (n : Nat) : ZOk n [] := ⟨rfl, Nat.zero_le _⟩
theorem ZOk.items {n : Nat} {S : List I} (h : ZOk n S) : ∀ x ∈ S, okItem x = true := by
  have h1 := h.set
  unfold setB at h1
  rw [setFrom_iff] at h1
  exact h1.1
theorem ZOk.pair {n : Nat} {S : List I} (h : ZOk n S) : S.Pairwise (fun x y => lessR x.1 y.1 = true) := by
  have h1 := h.set
  unfold setB at h1
  rw [setFrom_iff] at h1
  exact h1.2.1
theorem okItem_right {x : I} (h : okItem x = true) : rightR x.1 = true := by unfold okItem at h; simp only [Bool.and_eq_true] at h; exact h.1
theorem okItem_part {x : I} (h : okItem x = true) : Part x.2.1 ∧ Part x.2.2 := by
  unfold okItem keptP at h
  simp only [Bool.and_eq_true] at h
  exact ⟨partB_iff.1 h.2.1.1, partB_iff.1 h.2.1.2⟩
theorem ZOk.right {n : Nat} {S : List I} (h : ZOk n S) : ∀ x ∈ S, rightR x.1 = true := fun x hx => okItem_right (h.items x hx)
theorem ZOk.parts {n : Nat} {S : List I} (h : ZOk n S) : PartsI S := fun x hx => okItem_part (h.items x hx)
theorem ZOk.tallies {n : Nat} {S : List I} (h : ZOk n S) : ∀ x ∈ S, TallyAs x.2.1 x.2.2 := fun x hx => TallyAs.part (h.parts x hx).1 (h.parts x hx).2
/-- An item of one: added, or removed. -/
def oneP (rem : Bool) : Int := if rem then 0 else 1
def oneQ (rem : Bool) : Int := if rem then 1 else 0
def oneI (r : List V) (rem : Bool) : I := (r, oneP rem, oneQ rem)
def oneE (rem : Bool) : Int := if rem then -1 else 1
theorem oneI_net (r : List V) (rem : Bool) : netI (oneI r rem) = oneE rem := by cases rem <;> rfl
theorem oneI_part (r : List V) (rem : Bool) : Part (oneI r rem).2.1 ∧ Part (oneI r rem).2.2 := by
  unfold oneI oneP oneQ Part
  cases rem <;> simp
theorem make_of (l : List I) (hr : ∀ x ∈ l, rightR x.1 = true) (hp : PartsI l) (ha : absS l ≤ 1125899906842624) : ∃ S, makeI l = (0, S) ∧ ZOk (absS l) S ∧ (∀ f, netS f S = netS f l) ∧ ∀ x ∈ S, ∃ y ∈ l, y.1 = x.1 := by
  obtain ⟨s, h1, h2⟩ := make_small l ha
  obtain ⟨h3, h4, h5⟩ := make_net h1 hr
  have hw : l.any wrongI = false := by
    rw [List.any_eq_false]
    intro x hx
    have hpx := hp x hx
    unfold wrongI
    rw [hr x hx, partB_iff.2 hpx.1, partB_iff.2 hpx.2]
    simp
  refine ⟨s, ?_, ⟨h4, h2⟩, h3, h5⟩
  unfold makeI
  rw [hw, if_neg Bool.false_ne_true, h1]
/-- A set and an item more. -/
theorem make_step {n : Nat} {S : List I} (h : ZOk n S) (hn : n < 1125899906842624) (r : List V) (hr : rightR r = true) (rem : Bool) : ∃ S', makeI (S ++ [oneI r rem]) = (0, S') ∧ ZOk (n + 1) S' ∧ (∀ f, netS f S' = netS f S + f r * oneE rem) ∧ ∀ x ∈ S', x.1 = r ∨ ∃ y ∈ S, y.1 = x.1 := by
  have hone : absS [oneI r rem] = 1 := by
    rw [absS_cons, oneI_net, absS_nil]
    cases rem <;> rfl
  obtain ⟨S', h1, h2, h3, h4⟩ := make_of (S ++ [oneI r rem]) (fun x hx => by
    rcases List.mem_append.1 hx with hx | hx
    · exact h.right x hx
    · rw [List.mem_singleton.1 hx]; exact hr) (fun x hx => by
    rcases List.mem_append.1 hx with hx | hx
    · exact h.parts x hx
    · rw [List.mem_singleton.1 hx]; exact oneI_part r rem) (by rw [absS_append, hone]; have := h.small; omega)
  refine ⟨S', h1, h2.more (by rw [absS_append, hone]; have := h.small; omega), fun f => ?_, fun x hx => ?_⟩
  · rw [h3, netS_append, netS_cons, netS_nil, oneI_net]
    show netS f S + (f r * oneE rem + 0) = _
    omega
  · obtain ⟨y, hy, e⟩ := h4 x hx
    rcases List.mem_append.1 hy with hy | hy
    · exact .inr ⟨y, hy, e⟩
    · rw [List.mem_singleton.1 hy] at e
      exact .inl e.symm
/-- A set made anew is itself. -/
theorem make_self {n : Nat} {S : List I} (h : ZOk n S) (hn : n ≤ 1125899906842624) : makeI S = (0, S) := by
  obtain ⟨S', h1, h2, h3, _⟩ := make_of S h.right h.parts (Nat.le_trans h.small hn)
  rw [h1, setB_unique h2.set h.set h3]
/-- Two sets with the same sums are one. -/
theorem ZOk.same {n m : Nat} {S T : List I} (h : ZOk n S) (h' : ZOk m T) (e : ∀ f, netS f S = netS f T) : S = T := setB_unique h.set h'.set e
/-- How often a row is there. -/
abbrev cnt (r : List V) (S : List I) : Int := netS (oneRow r) S
theorem cnt_mem {n : Nat} {S : List I} (h : ZOk n S) : ∀ x ∈ S, cnt x.1 S = netI x := by
  have hp := h.pair
  clear h
  induction S with
  | nil => intro x hx; cases hx
  | cons y S ih =>
    have hq := List.pairwise_cons.1 hp
    intro x hx
    rcases List.mem_cons.1 hx with rfl | hx
    · exact netS_one fun z hz => less_ne (hq.1 z hz)
    · have h1 := ih hq.2 x hx
      unfold cnt at h1 ⊢
      rw [netS_cons, h1]
      unfold oneRow
      rw [if_neg (Ne.symm (less_ne (hq.1 x hx)))]
      omega
theorem cnt_none {S : List I} {r : List V} (h : ∀ x ∈ S, x.1 ≠ r) : cnt r S = 0 := netS_no S h
/-- Nothing is there less than no times. -/
def NN (S : List I) : Prop := ∀ r, 0 ≤ cnt r S
theorem NN.adds {n : Nat} {S : List I} (hn : NN S) (h : ZOk n S) : ∀ x ∈ S, 1 ≤ x.2.1 ∧ x.2.2 = 0 := fun x hx => by
  have h1 := hn x.1
  rw [cnt_mem h x hx] at h1
  obtain ⟨h2, h3⟩ := ok_net (h.items x hx)
  have h4 := congrArg (fun y : I => y.2.1) h3
  have h5 := congrArg (fun y : I => y.2.2) h3
  simp only [redP, redQ] at h4 h5
  omega
theorem NN.plain {n : Nat} {S : List I} (hn : NN S) (h : ZOk n S) : plainS S = true := by
  unfold plainS
  rw [h.set, Bool.and_true, List.all_eq_true]
  intro x hx
  have := hn.adds h x hx
  simp
  omega
theorem NN.nil_ : NN [] := fun r => by rw [cnt, netS_nil]; exact Int.le_refl _
/-- What Of tells. -/
theorem of_zero {n : Nat} {S : List I} (h : ZOk n S) (r : List V) (hr : rightR r = true) : (cnt r S = 0 ∧ cond (setB S) (ofV S r) (.complex .f64 0 0) = .complex .f64 0 0) ∨ (cnt r S ≠ 0 ∧ ∃ x ∈ S, x.1 = r ∧ cond (setB S) (ofV S r) (.complex .f64 0 0) = .complex .f64 (fl x.2.1) (fl x.2.2)) := by
  rw [h.set, cond_true]
  unfold ofV
  cases hf : S.find? (fun x => sameR x.1 r) with
  | none =>
    rw [List.find?_eq_none] at hf
    refine .inl ⟨cnt_none fun x hx e => ?_, rfl⟩
    have h1 := hf x hx
    rw [e, sameR_right hr] at h1
    simp at h1
  | some x =>
    have h1 := List.mem_of_find?_eq_some hf
    have h2 := List.find?_some hf
    rw [sameR_right (h.right x h1)] at h2
    have h3 : x.1 = r := by simpa using h2
    refine .inr ⟨?_, x, h1, h3, rfl⟩
    rw [← h3, cnt_mem h x h1]
    exact (ok_net (h.items x h1)).1
/-- The whole of a set. -/
theorem total_small {n : Nat} {S : List I} (h : ZOk n S) (hn : n ≤ 1125899906842624) : totalV (setB S) (sumN 0 S) = .tuple #[.int .i64 (netS (fun _ => 1) S), .bool true] := by
  have hs := h.small
  rw [h.set, sumN_small S 0 (by show 0 + _ ≤ _; omega), Int.zero_add]
  rfl
end Go.Proofs.YthpiobkghfdkkaaGreat

namespace Go.Proofs.YthpiobkghfdkkaaGreat
open Go.RowKit
set_option linter.unusedVariables false

theorem ge_zero {n : Nat} (h : n ≤ 1125899906842624) : (FloatKind.f64.format.order (fl n) 0 == some .gt || FloatKind.f64.format.order (fl n) 0 == some .eq) = true := by
  have o1 := order_fl n 0 (lt_of_part h) (by decide)
  rw [show ((0 : Nat) : Int) = 0 from rfl, fl_zero] at o1
  rw [o1]
  by_cases h0 : n = 0
  · subst h0; decide
  · rw [Nat.compare_eq_gt.2 (by omega)]; decide
theorem le_most {n : Nat} (h : n ≤ 1125899906842624) : (FloatKind.f64.format.order (fl n) 4832362400168542208 == some .lt || FloatKind.f64.format.order (fl n) 4832362400168542208 == some .eq) = true := by
  have o2 := order_fl n 1125899906842624 (lt_of_part h) (by decide)
  rw [show ((1125899906842624 : Nat) : Int) = 1125899906842624 from rfl, fl_most] at o2
  rw [o2]
  by_cases h0 : n = 1125899906842624
  · subst h0; decide
  · rw [Nat.compare_eq_lt.2 (by omega)]; decide
theorem ne_fl {n : Nat} (h : n ≤ 1125899906842624) : (FloatKind.f64.format.order (floatOfInt FloatKind.f64 (n : Int)) (fl n) != some .eq) = false := by
  show (FloatKind.f64.format.order (fl n) (fl n) != some .eq) = false
  rw [order_fl n n (lt_of_part h) (lt_of_part h), show compare n n = .eq by simp]
  decide

set_option maxRecDepth 100000 in
theorem rf3_parts (a b : Nat) (ha : a ≤ 1125899906842624) (hb : b ≤ 1125899906842624) (w : World) : Calls Tryz.prog 43 #[.complex .f64 (fl a) (fl b)] w fun e w' => e = .returned (.tuple #[.int .i64 a, .int .i64 b, .bool true]) ∧ w = w' := by
  have i1 := fun (w : World) => run_convert_float_int (P := Tryz.prog) w 76 2 .f64 .i64 (fl a) a (by kernel_rfl) (by kernel_rfl) (toIntVal_fl a (lt_of_part ha))
  have i2 := fun (w : World) => run_convert_float_int (P := Tryz.prog) w 76 2 .f64 .i64 (fl b) b (by kernel_rfl) (by kernel_rfl) (toIntVal_fl b (lt_of_part hb))
  have g1 := ge_zero ha
  have g2 := ge_zero hb
  have l1 := le_most ha
  have l2 := le_most hb
  have e1 := ne_fl ha
  have e2 := ne_fl hb
  go_enter Tryz.func43, Tryz.ntmps43
  go_wp2
  go_ret3
  exact ⟨rfl, rfl⟩
theorem rf3_Of (a b : Int) (w : World) : Calls Tryz.prog 51 #[.int .i64 a, .int .i64 b] w fun e w' => e = .returned (.complex .f64 (fl a) (fl b)) ∧ w = w' := by
  go_enter Tryz.func51, Tryz.ntmps51
  go_wp2
  go_ret
  exact ⟨rfl, rfl⟩
set_option maxRecDepth 100000 in
theorem rf3_net (a b : Nat) (ha : a ≤ 1125899906842624) (hb : b ≤ 1125899906842624) (w : World) : Calls Tryz.prog 82 #[.complex .f64 (fl a) (fl b)] w fun e w' => e = .returned (.int .i64 ((a : Int) - b)) ∧ w = w' := by
  go_enter Tryz.func82, Tryz.ntmps82
  go_wp2_with ((with_reducible refine (rf3_parts a b ha hb w).mono ?_); rintro e w' ⟨rfl, rfl⟩)
  go_ret
  exact ⟨rfl, rfl⟩
set_option maxRecDepth 100000 in
theorem rf3_of (n : Int) (h1 : -1125899906842624 ≤ n) (h2 : n ≤ 1125899906842624) (w : World) : Calls Tryz.prog 81 #[.int .i64 n] w fun e w' => e = .returned (.tuple #[.complex .f64 (fl (redP n)) (fl (redQ n)), .bool true]) ∧ w = w' := by
  have j1 : ¬ n > 1125899906842624 := by omega
  have j2 : ¬ n < -1125899906842624 := by omega
  by_cases h0 : n < 0
  · have hp : redP n = 0 := by unfold redP; omega
    have hq : redQ n = -n := by unfold redQ; omega
    rw [hp, hq]
    go_enter Tryz.func81, Tryz.ntmps81
    go_wp2_with ((with_reducible refine (rf3_Of _ _ _).mono ?_); rintro e w' ⟨rfl, rfl⟩)
    go_ret2
    exact ⟨by first | rfl | (simp; omega), rfl⟩
  · have hp : redP n = n := by unfold redP; omega
    have hq : redQ n = 0 := by unfold redQ; omega
    rw [hp, hq]
    go_enter Tryz.func81, Tryz.ntmps81
    go_wp2_with ((with_reducible refine (rf3_Of _ _ _).mono ?_); rintro e w' ⟨rfl, rfl⟩)
    go_ret2
    exact ⟨rfl, rfl⟩
set_option maxRecDepth 100000 in
theorem rf3_reduce (a b : Nat) (ha : a ≤ 1125899906842624) (hb : b ≤ 1125899906842624) (w : World) : Calls Tryz.prog 48 #[.complex .f64 (fl a) (fl b)] w fun e w' => e = .returned (.complex .f64 (fl (redP ((a : Int) - b))) (fl (redQ ((a : Int) - b)))) ∧ w = w' := by
  have HN := Lib.hid (rf3_net a b ha hb w)
  have HO := Lib.hid (fun w1 => rf3_of ((a : Int) - b) (by omega) (by omega) w1)
  generalize (a : Int) - b = n at *
  go_enter Tryz.func48, Tryz.ntmps48
  go_wp2_with (first | ((with_reducible refine HN.out.mono ?_); rintro e w' ⟨rfl, rfl⟩) | ((with_reducible refine (HO.out _).mono ?_); rintro e w' ⟨rfl, rfl⟩))
  go_ret
  exact ⟨rfl, rfl⟩
set_option maxRecDepth 100000 in
theorem rf3_add (a b c d : Nat) (ha : a ≤ 1125899906842624) (hb : b ≤ 1125899906842624) (hc : c ≤ 1125899906842624) (hd : d ≤ 1125899906842624) (n : Int) (hn : n = (a : Int) - b + ((c : Int) - d)) (h1 : -1125899906842624 ≤ n) (h2 : n ≤ 1125899906842624) (w : World) :
    Calls Tryz.prog 47 #[.complex .f64 (fl a) (fl b), .complex .f64 (fl c) (fl d)] w fun e w' => e = .returned (.tuple #[.complex .f64 (fl (redP n)) (fl (redQ n)), .bool true]) ∧ w = w' := by
  have HP := Lib.hid (rf3_parts a b ha hb w)
  have HQ := Lib.hid (rf3_parts c d hc hd w)
  have HN := Lib.hid (rf3_net a b ha hb w)
  have HM := Lib.hid (rf3_net c d hc hd w)
  have HO := Lib.hid (rf3_of n h1 h2 w)
  have hw : IntKind.i64.wrap ((a : Int) - b + ((c : Int) - d)) = n := by rw [IntKind.wrap_i64]; omega
  generalize hx : (a : Int) - b = x at *
  generalize hy : (c : Int) - d = y at *
  clear hx hy hn
  go_enter Tryz.func47, Tryz.ntmps47
  go_wp2_with (first | ((with_reducible refine HP.out.mono ?_); rintro e w' ⟨rfl, rfl⟩) | ((with_reducible refine HQ.out.mono ?_); rintro e w' ⟨rfl, rfl⟩) | ((with_reducible refine HN.out.mono ?_); rintro e w' ⟨rfl, rfl⟩) | ((with_reducible refine HM.out.mono ?_); rintro e w' ⟨rfl, rfl⟩) | ((with_reducible refine HO.out.mono ?_); rintro e w' ⟨rfl, rfl⟩))
  go_ret2
  exact ⟨rfl, rfl⟩
end Go.Proofs.YthpiobkghfdkkaaGreat

namespace Go.Proofs.YthpiobkghfdkkaaGreat
open Go.RowKit
set_option linter.unusedVariables false

theorem Tryz.infoItemJ : (Tryz.prog.info? 62).map (fun i => (i.zero, i.size, i.bytes)) = some (some (.agg #[.slice none 0 0, .complex .f64 0 0]), 2, 40) := by kernel_rfl
end Go.Proofs.YthpiobkghfdkkaaGreat

namespace Go.Proofs.YthpiobkghfdkkaaGreat
open Go.RowKit
set_option linter.unusedVariables false

def SetF (GI : List I) (v : Value) (w : World) : Prop := ∃ A n c, v = .slice A n c ∧ SetIn GI w A n c
theorem SetF.mono (GI : List I) : Mono (SetF GI) := fun v w w' hE ⟨A, n, c, e, h⟩ => ⟨A, n, c, e, h.ev hE⟩
end Go.Proofs.YthpiobkghfdkkaaGreat

namespace Go.Proofs.YthpiobkghfdkkaaGreat
open Go.RowKit
set_option linter.unusedVariables false

/-- What a slice's cells hold keeps it out of a block that holds other things. -/
theorem Sl.past {α : Type} {k : Nat} {enc : α → List Value} {w w' : World} {A : Option Addr} {n cap g : Nat} {l : List α} (h : Sl k enc w A n cap l) (hb : But [g] w w') (hne : ∀ x ∈ l, ∃ (j : Nat) (u : Value), (enc x)[j]? = some u ∧ ∀ o, w.cell? ⟨g, o, none⟩ ≠ some u) : Sl k enc w' A n cap l :=
  ⟨h.len, h.le, h.max, h.nil, fun hn => by
    obtain ⟨b, off, e, hlt, hc⟩ := h.rd hn
    have hg : b ∉ [g] := by
      intro hm
      obtain rfl := List.mem_singleton.1 hm
      obtain ⟨x, hx⟩ := h.at hn
      obtain ⟨j, u, hj, hu⟩ := hne x (List.mem_of_getElem? hx)
      exact hu _ (hc 0 x hx j u hj)
    refine ⟨b, off, e, Nat.lt_of_lt_of_le hlt hb.size, fun i x hx j u hu => ?_⟩
    rw [World.cell?_of_block (w := w) (hb.block b hlt hg)]
    exact hc i x hx j u hu⟩
/-- A string or a slice: the cells of a Table. -/
def PvT (u : Value) : Prop := (∃ s, u = .string s) ∨ ∃ A n c, u = .slice A n c
theorem pvt_tc (x : TM) : ∀ u ∈ tc x, PvT u := fun u hu => by
  simp [tc] at hu
  rcases hu with rfl | rfl | rfl
  · exact .inl ⟨_, rfl⟩
  · exact .inr ⟨_, _, _, rfl⟩
  · exact .inr ⟨_, _, _, rfl⟩
theorem OwP.ev {α : Type} {et : TypeId} {k base : Nat} {enc : α → List Value} {Pv : Value → Prop} {w w' : World} {v : Value} {Z : List α} (h : OwP Pv w v) (hO : Ow et k enc base w v Z) (hE : Ev w w') : OwP Pv w' v := fun g hg cs T q hb => h g hg cs T q (by rw [← hE.block g (hO.lt hg).2]; exact hb)
theorem own_all {α : Type} {et : TypeId} {k base : Nat} {enc : α → List Value} {Pv : Value → Prop} {w : World} {v : Value} {Z : List α} (hO : Ow et k enc base w v Z) (hp : OwP Pv w v) {g : Nat} (hg : v.ownBlock = some g) {o : Nat} {u : Value} (hc : w.cell? ⟨g, o, none⟩ = some u) : Pv u := by
  rcases hO.2 with ⟨rfl, hn⟩ | ⟨g', cap, cur, rfl, _, hh, _⟩
  · simp [Value.ownBlock] at hg
  · simp only [Value.ownBlock, Option.some.injEq] at hg
    subst hg
    rw [Lib.cell_of_heap hh] at hc
    exact hp _ rfl _ _ _ hh u (Array.mem_toList_iff.2 (Array.mem_of_getElem? hc))
theorem own_past {α β : Type} {et : TypeId} {k base j : Nat} {enc : α → List Value} {en2 : β → List Value} {w w' : World} {v : Value} {Z : List α} (hO : Ow et k enc base w v Z) (hp : OwP PvT w v) (hb : But (foot v) w w') {A : Option Addr} {n cap : Nat} {l : List β} (h : Sl j en2 w A n cap l) (hne : ∀ x ∈ l, ∃ (j : Nat) (u : Value), (en2 x)[j]? = some u ∧ ¬ PvT u) : Sl j en2 w' A n cap l := by
  cases hv : v.ownBlock with
  | none => exact h.ev (hb.ev fun g hg => by rw [mem_foot, hv] at hg; cases hg)
  | some g =>
    have hf : foot v = [g] := by unfold foot; rw [hv]; rfl
    rw [hf] at hb
    exact h.past hb fun x hx => by
      obtain ⟨j, u, h1, h2⟩ := hne x hx
      exact ⟨j, u, h1, fun o hc => h2 (own_all hO hp hv hc)⟩
theorem not_tal (x : J) : ¬ PvT (jtal x) := fun h => by
  unfold jtal at h
  rcases h with ⟨s, e⟩ | ⟨A, n, c, e⟩ <;> cases e
theorem not_int (a : Int) : ¬ PvT (.int .i64 a) := fun h => by
  rcases h with ⟨s, e⟩ | ⟨A, n, c, e⟩ <;> cases e
theorem TmAt.grown {α : Type} {et : TypeId} {k base : Nat} {enc : α → List Value} {w w' : World} {v : Value} {Z : List α} {t : TM} (h : TmAt w t) (hO : Ow et k enc base w v Z) (hp : OwP PvT w v) (hb : But (foot v) w w') : TmAt w' t := by
  obtain ⟨Y, hz, hl⟩ := h.rows
  exact ⟨own_past hO hp hb h.cols fun x hx => ⟨1, .int .i64 x.2, rfl, not_int _⟩, Y, ⟨own_past hO hp hb hz.js fun x hx => ⟨1, jtal x, rfl, not_tal x⟩, fun z hzm => ⟨own_past hO hp hb (hz.rows z hzm).1 fun x hx => ⟨0, .int .i64 x.1, rfl, not_int _⟩, fun ad e => Nat.lt_of_lt_of_le ((hz.rows z hzm).2 ad e) hb.size⟩, fun ad e => Nat.lt_of_lt_of_le (hz.low ad e) hb.size, Nat.le_refl _⟩, hl⟩
theorem pvt_zero : ∀ u ∈ (Value.agg #[.string ⟨#[]⟩, .slice none 0 0, .slice none 0 0]).cells.toList, PvT u := fun u hu => by
  simp [Value.cells] at hu
  rcases hu with rfl | rfl
  · exact .inl ⟨_, rfl⟩
  · exact .inr ⟨_, _, _, rfl⟩
end Go.Proofs.YthpiobkghfdkkaaGreat

namespace Go.Proofs.YthpiobkghfdkkaaGreat
open Go.RowKit
set_option linter.unusedVariables false

/-- A set that tells no row less than no times. -/
structure PSet (m : Nat) (S : List I) : Prop where
  z : ZOk m S
  nn : NN S
theorem PSet.nil_ (m : Nat) : PSet m [] := ⟨ZOk.nil_ m, NN.nil_⟩
/-- An item that is added. -/
def AddI (x : I) : Prop := rightR x.1 = true ∧ 1 ≤ x.2.1 ∧ x.2.1 ≤ 1000 ∧ x.2.2 = 0
theorem AddI.net {x : I} (h : AddI x) : netI x = x.2.1 := by unfold netI; have := h.2.2.2; omega
theorem nn_up {S T : List I} {x : I} (h : NN S) (hx : AddI x) (e : ∀ f, netS f T = netS f S + f x.1 * netI x) : NN T := fun r => by
  have h1 := h r
  rw [cnt, e, hx.net]
  show 0 ≤ cnt r S + oneRow r x.1 * x.2.1
  unfold oneRow
  have := hx.2.1
  split
  · omega
  · omega
theorem netS_set (f : List V → Int) : ∀ (S : List I) (k : Nat) (y z : I), S[k]? = some y → y.1 = z.1 → netS f (S.set k z) = netS f S + f z.1 * (netI z - netI y)
  | [], k, y, z, h, _ => by simp at h
  | a :: S, 0, y, z, h, e => by
    simp at h
    subst h
    rw [List.set_cons_zero, netS_cons, netS_cons, e, Int.mul_sub]
    omega
  | a :: S, k + 1, y, z, h, e => by
    rw [List.set_cons_succ, netS_cons, netS_cons, netS_set f S k y z (by simpa using h) e]
    omega
theorem absS_set : ∀ (S : List I) (k : Nat) (y z : I), S[k]? = some y → absS (S.set k z) + (netI y).natAbs = absS S + (netI z).natAbs
  | [], k, y, z, h => by simp at h
  | a :: S, 0, y, z, h => by
    simp at h
    subst h
    rw [List.set_cons_zero, absS_cons, absS_cons]
    omega
  | a :: S, k + 1, y, z, h => by
    have := absS_set S k y z (by simpa using h)
    rw [List.set_cons_succ, absS_cons, absS_cons]
    omega
theorem setB_of {S : List I} (h1 : ∀ x ∈ S, okItem x = true) (h2 : S.Pairwise (fun x y => lessR x.1 y.1 = true)) : setB S = true := by
  unfold setB
  rw [setFrom_iff]
  exact ⟨h1, h2, fun r e => by cases e⟩
theorem set_keys : ∀ (S : List I) (k : Nat) (y z : I), S[k]? = some y → y.1 = z.1 → (S.set k z).map (fun x : I => x.1) = S.map (fun x : I => x.1)
  | [], k, y, z, h, _ => by simp at h
  | a :: S, 0, y, z, h, e => by
    simp at h
    subst h
    simp [e]
  | a :: S, k + 1, y, z, h, e => by
    rw [List.set_cons_succ, List.map_cons, List.map_cons, set_keys S k y z (by simpa using h) e]
/-- A row that is there already. -/
theorem mk_same {m : Nat} {S : List I} (h : PSet m S) (hm : m ≤ 1000000) {k : Nat} {x y : I} (hy : S[k]? = some y) (he : y.1 = x.1) (hx : AddI x) (n : Int) (hn : n = netI y + netI x) :
    PSet (m + x.2.1.toNat) (S.set k (x.1, redP n, redQ n)) ∧ (∀ f, netS f (S.set k (x.1, redP n, redQ n)) = netS f S + f x.1 * netI x) ∧ -1125899906842624 ≤ n ∧ n ≤ 1125899906842624 ∧ Part y.2.1 ∧ Part y.2.2 := by
  have hym := List.mem_of_getElem? hy
  have hnet := hx.net
  have h1 := h.nn.adds h.z y hym
  have hyn : 1 ≤ netI y := by unfold netI; omega
  have hle : (netI y).natAbs ≤ m := by
    have h2 := absS_set S k y (x.1, 0, 0) hy
    have h3 : (netI ((x.1, 0, 0) : I)).natAbs = 0 := rfl
    have h4 := h.z.small
    omega
  have hb := hx.2
  have hs : ∀ f, netS f (S.set k (x.1, redP n, redQ n)) = netS f S + f x.1 * netI x := fun f => by
    rw [netS_set f S k y (x.1, redP n, redQ n) hy he, net_red, hn, show netI y + netI x - netI y = netI x by omega]
  refine ⟨⟨⟨setB_of (fun z hz => ?_) ?_, ?_⟩, nn_up h.nn hx hs⟩, hs, by omega, by omega, h.z.parts y hym⟩
  · rcases List.mem_or_eq_of_mem_set hz with hz | hz
    · exact h.z.items z hz
    · subst hz
      unfold okItem
      rw [hx.1, kept_red (by omega) (okNet_iff.2 (by omega))]
      rfl
  · have h2 := h.z.pair
    have h3 := set_keys S k y (x.1, redP n, redQ n) hy he
    have h4 : (S.map (fun x : I => x.1)).Pairwise (fun a b => lessR a b = true) := List.pairwise_map.2 h2
    rw [← h3] at h4
    exact List.pairwise_map.1 h4
  · have h2 := absS_set S k y (x.1, redP n, redQ n) hy
    rw [net_red] at h2
    have h4 := h.z.small
    omega
/-- A row that is new. -/
theorem mk_new {m : Nat} {S : List I} (h : PSet m S) (hm : m ≤ 1000000) {k : Nat} {x : I} (hk : k ≤ S.length) (hx : AddI x) (hl : ∀ i y, i < k → S[i]? = some y → lessR y.1 x.1 = true) (hg : ∀ y, S[k]? = some y → lessR y.1 x.1 = false ∧ y.1 ≠ x.1) :
    PSet (m + x.2.1.toNat) (S.take k ++ (x.1, redP (netI x), redQ (netI x)) :: S.drop k) ∧ (∀ f, netS f (S.take k ++ (x.1, redP (netI x), redQ (netI x)) :: S.drop k) = netS f S + f x.1 * netI x) := by
  have hnet := hx.net
  have hb := hx.2
  have hs : ∀ f, netS f (S.take k ++ (x.1, redP (netI x), redQ (netI x)) :: S.drop k) = netS f S + f x.1 * netI x := fun f => by
    have e : netS f S = netS f (S.take k) + netS f (S.drop k) := by rw [← netS_append, List.take_append_drop]
    rw [netS_append, netS_cons, net_red, e]
    show _ + (f x.1 * netI x + _) = _
    omega
  have hok : okItem (x.1, redP (netI x), redQ (netI x)) = true := by
    unfold okItem
    rw [hx.1, kept_red (by omega) (okNet_iff.2 (by omega))]
    rfl
  have hp := h.z.pair
  refine ⟨⟨⟨setB_of (fun z hz => ?_) ?_, ?_⟩, nn_up h.nn hx hs⟩, hs⟩
  · rcases List.mem_append.1 hz with hz | hz
    · exact h.z.items z (List.mem_of_mem_take hz)
    · rcases List.mem_cons.1 hz with rfl | hz
      · exact hok
      · exact h.z.items z (List.mem_of_mem_drop hz)
  · rw [List.pairwise_append]
    have hbig : ∀ y ∈ S.drop k, lessR x.1 y.1 = true := fun y hy => by
      cases hd : S[k]? with
      | none =>
        have : S.drop k = [] := List.drop_of_length_le (by have := List.getElem?_eq_none_iff.1 hd; omega)
        rw [this] at hy
        cases hy
      | some z =>
        obtain ⟨h1, h2⟩ := hg z hd
        have hz := h.z.right z (List.mem_of_getElem? hd)
        have h3 := lessR_tri hx.1 hz (Ne.symm h2)
        rw [h1] at h3
        have hdk : S.drop k = z :: S.drop (k + 1) := by
          obtain ⟨hk2, e⟩ := List.getElem?_eq_some_iff.1 hd
          rw [List.drop_eq_getElem_cons hk2, e]
        have hpd : (S.drop k).Pairwise (fun x y => lessR x.1 y.1 = true) := hp.sublist (List.drop_sublist k S)
        rw [hdk] at hy hpd
        rcases List.mem_cons.1 hy with rfl | hy
        · simpa using h3
        · exact lessR_trans (by simpa using h3) ((List.pairwise_cons.1 hpd).1 y hy)
    refine ⟨hp.sublist (List.take_sublist k S), List.pairwise_cons.2 ⟨hbig, hp.sublist (List.drop_sublist k S)⟩, fun a ha b hb' => ?_⟩
    have hax : lessR a.1 x.1 = true := by
      obtain ⟨i, hi, e⟩ := List.getElem_of_mem ha
      rw [List.length_take] at hi
      refine hl i a (by omega) ?_
      rw [← e, List.getElem_take]
      exact List.getElem?_eq_getElem _
    rcases List.mem_cons.1 hb' with rfl | hb'
    · exact hax
    · exact lessR_trans hax (hbig b hb')
  · have e : absS S = absS (S.take k) + absS (S.drop k) := by rw [← absS_append, List.take_append_drop]
    rw [absS_append, absS_cons, net_red]
    have h4 := h.z.small
    omega
/-- The cells of an item are no whole number alone. -/
def PvI (u : Value) : Prop := (∃ A n c, u = .slice A n c) ∨ ∃ k x y, u = .complex k x y
theorem pvi_j (x : J) : ∀ u ∈ jcells x, PvI u := fun u hu => by
  simp [jcells, jrow, jtal] at hu
  rcases hu with rfl | rfl
  · exact .inl ⟨_, _, _, rfl⟩
  · exact .inr ⟨_, _, _, rfl⟩
theorem pvi_zero : ∀ u ∈ (Value.agg #[.slice none 0 0, .complex .f64 0 0]).cells.toList, PvI u := fun u hu => by
  simp [Value.cells] at hu
  rcases hu with rfl | rfl
  · exact .inl ⟨_, _, _, rfl⟩
  · exact .inr ⟨_, _, _, rfl⟩
theorem pvi_int (a : Int) : ¬ PvI (.int .i64 a) := fun h => by
  rcases h with ⟨A, n, c, e⟩ | ⟨k, x, y, e⟩ <;> cases e
/-- Items in a slice of one's own, their rows in memory of their own. -/
structure MkSt (w : World) (v : Value) (Z : List J) (wr : World) : Prop where
  own : Ow 62 2 jcells w.heap.size wr v Z
  pv : OwP PvI wr v
  rows : ∀ z ∈ Z, Vs wr z.1.1 z.1.2.1 z.1.2.2 z.2.1 ∧ ∀ ad, z.1.1 = some ad → w.heap.size ≤ ad.block ∧ ad.block < wr.heap.size
  right : ∀ z ∈ Z, z.2.1 ≠ []
theorem MkSt.start (w wr : World) : MkSt w (.slice none 0 0) [] wr := ⟨Ow.nil_ _, OwP.none_ _ _ _ _, (fun z hz => by cases hz), (fun z hz => by cases hz)⟩
theorem MkSt.ev {w wr wq : World} {v : Value} {Z : List J} (h : MkSt w v Z wr) (hE : Ev wr wq) : MkSt w v Z wq := ⟨h.own.ev hE, h.pv.ev h.own hE, fun z hz => ⟨(h.rows z hz).1.ev hE, fun ad ea => ⟨((h.rows z hz).2 ad ea).1, Nat.lt_of_lt_of_le ((h.rows z hz).2 ad ea).2 hE.size⟩⟩, h.right⟩
/-- A row lies elsewhere than a slice of items. -/
theorem vs_past {wr wq : World} {base : Nat} {v : Value} {Z : List J} (hO : Ow 62 2 jcells base wr v Z) (hp : OwP PvI wr v) (hb : But (foot v) wr wq) {A : Option Addr} {n c : Nat} {r : List V} (h : Vs wr A n c r) : Vs wq A n c r := by
  cases hv : v.ownBlock with
  | none => exact h.ev (hb.ev fun g hg => by rw [mem_foot, hv] at hg; cases hg)
  | some g =>
    have hf : foot v = [g] := by unfold foot; rw [hv]; rfl
    rw [hf] at hb
    exact h.past hb fun x hx => ⟨0, .int .i64 x.1, rfl, fun o hc => pvi_int _ (own_all hO hp hv hc)⟩
theorem MkSt.sl {w wr : World} {A : Option Addr} {n c : Nat} {Z : List J} (h : MkSt w (.slice A n c) Z wr) : Sl 2 jcells wr A n c Z := by
  obtain ⟨A1, c1, e, hS, _⟩ := h.own.form encJ
  injection e with e1 e2 e3
  subst e1; subst e2; subst e3
  exact hS
theorem MkSt.high {w wr : World} {v : Value} {Z : List J} (h : MkSt w v Z wr) : ∀ k ∈ foot v, w.heap.size ≤ k ∧ k < wr.heap.size := fun k hk => h.own.lt (mem_foot.1 hk)
theorem MkSt.set_ {w wr : World} {A : Option Addr} {n c : Nat} {Z : List J} (h : MkSt w (.slice A n c) Z wr) : SetNew w.heap.size (itemsOf Z) wr A n c := by
  obtain ⟨A1, c1, e, hS, hA⟩ := h.own.form encJ
  injection e with e1 e2 e3
  subst e1; subst e2; subst e3
  exact ⟨Z, ⟨hS, fun z hz => ⟨(h.rows z hz).1, fun ad ea => ((h.rows z hz).2 ad ea).2⟩, fun ad ea => (hA ad ea).2.2.1, Nat.le_refl _⟩, rfl, fun ad ea => (hA ad ea).2.1, fun z hz ad ea => ((h.rows z hz).2 ad ea).1⟩
/-- Another tally in place k. -/
theorem MkSt.tally {w wr : World} {g n c k : Nat} {Z : List J} {z : J} (h : MkSt w (.slice (some ⟨g, 0, none⟩) n c) Z wr) (hz : Z[k]? = some z) (p q : Int) :
    MkSt w (.slice (some ⟨g, 0, none⟩) n c) (Z.set k (z.1, (z.2.1, p, q))) (wr.setCell ⟨g, k * 2 + 1, none⟩ (.complex .f64 (fl p) (fl q))) ∧ But [g] wr (wr.setCell ⟨g, k * 2 + 1, none⟩ (.complex .f64 (fl p) (fl q))) := by
  have hb : But [g] wr (wr.setCell ⟨g, k * 2 + 1, none⟩ (.complex .f64 (fl p) (fl q))) := But.setCell _ _ (by simp)
  have hf : foot (.slice (some ⟨g, 0, none⟩) n c) = [g] := rfl
  have hzm := List.mem_of_getElem? hz
  refine ⟨⟨Ow.set (x' := (z.1, (z.2.1, p, q))) (u := .complex .f64 (fl p) (fl q)) encJ h.own hz (j := 1) (by omega) rfl, ?_, fun x hx => ?_, fun x hx => ?_⟩, hb⟩
  · intro g' hg' cs T qq hh u hu
    simp only [Value.ownBlock, Option.some.injEq] at hg'
    subst hg'
    rcases h.own.2 with ⟨e, _⟩ | ⟨g2, cap2, cur, e, _, hg2, _⟩
    · cases e
    · injection e with e _ _
      injection e with e
      injection e with e _ _
      subst e
      have h2 := ow_set_heap (k * 2 + 1) (.complex .f64 (fl p) (fl q)) hg2
      rw [h2] at hh
      injection hh with hh
      injection hh with hh _ _
      subst hh
      rw [Array.toList_setIfInBounds] at hu
      rcases List.mem_or_eq_of_mem_set hu with hu | hu
      · exact h.pv _ rfl _ _ _ hg2 u hu
      · subst hu
        exact .inr ⟨_, _, _, rfl⟩
  · have hr : ∀ y ∈ Z, Vs (wr.setCell ⟨g, k * 2 + 1, none⟩ (.complex .f64 (fl p) (fl q))) y.1.1 y.1.2.1 y.1.2.2 y.2.1 ∧ ∀ ad, y.1.1 = some ad → w.heap.size ≤ ad.block ∧ ad.block < (wr.setCell ⟨g, k * 2 + 1, none⟩ (.complex .f64 (fl p) (fl q))).heap.size := fun y hy => ⟨vs_past h.own h.pv (hf ▸ hb) (h.rows y hy).1, fun ad ea => ⟨((h.rows y hy).2 ad ea).1, Nat.lt_of_lt_of_le ((h.rows y hy).2 ad ea).2 hb.size⟩⟩
    rcases List.mem_or_eq_of_mem_set hx with hx | hx
    · exact hr x hx
    · subst hx
      exact hr z hzm
  · rcases List.mem_or_eq_of_mem_set hx with hx | hx
    · exact h.right x hx
    · subst hx
      exact h.right z hzm
end Go.Proofs.YthpiobkghfdkkaaGreat

namespace Go.Proofs.YthpiobkghfdkkaaGreat
open Go.RowKit
set_option linter.unusedVariables false

set_option maxRecDepth 100000 in
set_option maxHeartbeats 6400000 in
theorem ins_twoS (go gb : Nat) (r10 : Int) (w : World) (hO : Bx 3 go #[.int .i64 0, .int .i64 1] w) (h10 : r10 < 0) (hC10 : ∀ w1, But [go] w w1 → Calls Tryz.prog 123 #[.int .i64 1, .int .i64 0, .pointer (some ⟨gb, 0, none⟩)] w1 fun e w' => e = .returned (.int .i64 r10) ∧ Ev w1 w') :
    Calls Tryz.prog 139 #[.slice (some ⟨go, 0, none⟩) 2 2, .int .i64 0, .int .i64 2, .func (.func 123) #[] #[.pointer (some ⟨gb, 0, none⟩)]] w fun e w' => e = .returned (.tuple #[]) ∧ Bx 3 go #[.int .i64 1, .int .i64 0] w' ∧ But [go] w w' := by
  have hmix : Tryz.prog.follows .mixedOrders = true := by kernel_rfl
  have hr10 : decide (r10 < 0) = true := by simp; omega
  have HC10 := Lib.hid hC10
  have HO := Lib.hid hO
  have HB := Lib.hid (But.refl [go] w)
  clear hC10 hO h10
  go_enter Tryz.func139, Tryz.ntmps139
  go_wp2
  refine wp_loop_rounds 3 ?_
  rw [rounds_succ]
  go_wp2
  refine wp_loop_rounds 2 ?_
  rw [rounds_succ]
  go_wp2
  obtain ⟨⟨o0, o1⟩, z0, z1⟩ := (HO.out).two
  have hgo := (HO.out).lt
  refine wp_region_slots hmix [fun v _ => v = .int .i64 1, fun v _ => v = .int .i64 0, fun v _ => v = .bool true, fun v _ => v = .bool true, fun v _ => v = .func (.func 123) #[] #[.pointer (some ⟨gb, 0, none⟩)], fun v _ => v = .slice (some ⟨go, 0, none⟩) 2 2, fun v _ => v = .int .i64 1, fun v _ => v = .pointer (some ⟨go, 1, none⟩), fun v _ => v = .int .i64 1, fun v _ => v = .slice (some ⟨go, 0, none⟩) 2 2, fun v _ => v = .int .i64 1, fun v _ => v = .int .i64 0, fun v _ => v = .pointer (some ⟨go, 0, none⟩), fun v _ => v = .int .i64 0, fun v _ => v = .int .i64 r10, fun v _ => v = .bool true, fun v _ => v = .bool true]
    53 rfl (by kernel_rfl) ⟨mono_eq _, mono_eq _, mono_eq _, mono_eq _, mono_eq _, mono_eq _, mono_eq _, mono_eq _, mono_eq _, mono_eq _, mono_eq _, mono_eq _, mono_eq _, mono_eq _, mono_eq _, mono_eq _, mono_eq _, trivial⟩ ?_ ?_
  · refine ops_cons 0 ?_ (ops_cons 1 ?_ (ops_cons 2 ?_ (ops_cons 3 ?_ (ops_cons 4 ?_ (ops_cons 5 ?_ (ops_cons 6 ?_ (ops_cons 7 ?_ (ops_cons 8 ?_ (ops_cons 9 ?_ (ops_cons 10 ?_ (ops_cons 11 ?_ (ops_cons 12 ?_ (ops_cons 13 ?_ (ops_cons 14 ?_ (ops_cons 15 ?_ (ops_cons 16 ?_ (ops_nil 17)))))))))))))))))
    · refine op_value fun a w c => ⟨(wanted_plain rfl), _, run_move _ rfl w, (c.was 9 (by kernel_rfl) rfl)⟩
    · refine op_value fun a w c => ⟨(wanted_plain rfl), _, run_move _ rfl w, (c.was 1 (by kernel_rfl) rfl)⟩
    · refine op_value fun a w c => ⟨(wanted_plain rfl), .bool true, ?_, rfl⟩
      have e18 : a.eval (.tmp 18) = .int .i64 1 := (c.new 0 18 (by kernel_rfl) (by kernel_rfl))
      have e19 : a.eval (.tmp 19) = .int .i64 0 := (c.new 1 19 (by kernel_rfl) (by kernel_rfl))
      generalize a.eval = ρ at e18 e19 ⊢
      simp [execOp, e18, e19, go_sem]
    · refine op_value fun a w c => ⟨(wanted_plain rfl), _, run_move _ rfl w, (c.new 2 20 (by kernel_rfl) (by kernel_rfl))⟩
    · refine op_value fun a w c => ⟨(wanted_yes rfl (by kernel_rfl) (c.new 3 21 (by kernel_rfl) (by kernel_rfl))), _, run_move _ rfl w, (c.was 3 (by kernel_rfl) rfl)⟩
    · refine op_value fun a w c => ⟨(wanted_yes rfl (by kernel_rfl) (c.new 3 21 (by kernel_rfl) (by kernel_rfl))), _, run_move _ rfl w, (c.was 0 (by kernel_rfl) rfl)⟩
    · refine op_value fun a w c => ⟨(wanted_yes rfl (by kernel_rfl) (c.new 3 21 (by kernel_rfl) (by kernel_rfl))), _, run_move _ rfl w, (c.was 9 (by kernel_rfl) rfl)⟩
    · refine op_value fun a wq c => ⟨(wanted_yes rfl (by kernel_rfl) (c.new 3 21 (by kernel_rfl) (by kernel_rfl))), .pointer (some ⟨go, 1, none⟩), ?_, rfl⟩
      have e_0 : a.eval (.tmp 23) = .slice (some ⟨go, 0, none⟩) 2 2 := (c.new 5 23 (by kernel_rfl) (by kernel_rfl))
      have e_1 : a.eval (.tmp 24) = .int .i64 1 := (c.new 6 24 (by kernel_rfl) (by kernel_rfl))
      generalize a.eval = ρ at e_0 e_1 ⊢
      simp [execOp, e_0, e_1, go_sem]
    · refine op_value fun a w c => ⟨(wanted_yes rfl (by kernel_rfl) (c.new 3 21 (by kernel_rfl) (by kernel_rfl))), .int .i64 1, ?_, rfl⟩
      have e25 : a.eval (.tmp 25) = .pointer (some ⟨go, 1, none⟩) := (c.new 7 25 (by kernel_rfl) (by kernel_rfl))
      have hc := (c.ev.cell (p := ⟨go, 1, none⟩) hgo).trans o1
      generalize a.eval = ρ at e25 ⊢
      simp [execOp, e25, hc, go_sem]
    · refine op_value fun a w c => ⟨(wanted_yes rfl (by kernel_rfl) (c.new 3 21 (by kernel_rfl) (by kernel_rfl))), _, run_move _ rfl w, (c.was 0 (by kernel_rfl) rfl)⟩
    · refine op_value fun a w c => ⟨(wanted_yes rfl (by kernel_rfl) (c.new 3 21 (by kernel_rfl) (by kernel_rfl))), _, run_move _ rfl w, (c.was 9 (by kernel_rfl) rfl)⟩
    · refine op_value fun a w c => ⟨(wanted_yes rfl (by kernel_rfl) (c.new 3 21 (by kernel_rfl) (by kernel_rfl))), .int .i64 0, ?_, rfl⟩
      have e28 : a.eval (.tmp 28) = .int .i64 1 := (c.new 10 28 (by kernel_rfl) (by kernel_rfl))
      have kc0 : a.eval (.const (.int .i64 1)) = .int .i64 1 := rfl
      generalize a.eval = ρ at e28 kc0 ⊢
      simp [execOp, e28, kc0, go_sem, show IntKind.i64.wrap 0 = 0 from rfl]
    · refine op_value fun a wq c => ⟨(wanted_yes rfl (by kernel_rfl) (c.new 3 21 (by kernel_rfl) (by kernel_rfl))), .pointer (some ⟨go, 0, none⟩), ?_, rfl⟩
      have e_0 : a.eval (.tmp 27) = .slice (some ⟨go, 0, none⟩) 2 2 := (c.new 9 27 (by kernel_rfl) (by kernel_rfl))
      have e_1 : a.eval (.tmp 29) = .int .i64 0 := (c.new 11 29 (by kernel_rfl) (by kernel_rfl))
      generalize a.eval = ρ at e_0 e_1 ⊢
      simp [execOp, e_0, e_1, go_sem]
    · refine op_value fun a w c => ⟨(wanted_yes rfl (by kernel_rfl) (c.new 3 21 (by kernel_rfl) (by kernel_rfl))), .int .i64 0, ?_, rfl⟩
      have e30 : a.eval (.tmp 30) = .pointer (some ⟨go, 0, none⟩) := (c.new 12 30 (by kernel_rfl) (by kernel_rfl))
      have hc := (c.ev.cell (p := ⟨go, 0, none⟩) hgo).trans o0
      generalize a.eval = ρ at e30 ⊢
      simp [execOp, e30, hc, go_sem]
    · refine op_call fun a wq c => ⟨(wanted_yes rfl (by kernel_rfl) (c.new 3 21 (by kernel_rfl) (by kernel_rfl))), 123, #[.int .i64 1, .int .i64 0, .pointer (some ⟨gb, 0, none⟩)], ?_, ?_⟩
      · have e_0 : a.eval (.tmp 22) = .func (.func 123) #[] #[.pointer (some ⟨gb, 0, none⟩)] := (c.new 4 22 (by kernel_rfl) (by kernel_rfl))
        have e_1 : a.eval (.tmp 26) = .int .i64 1 := (c.new 8 26 (by kernel_rfl) (by kernel_rfl))
        have e_2 : a.eval (.tmp 31) = .int .i64 0 := (c.new 13 31 (by kernel_rfl) (by kernel_rfl))
        rw [run_callv 123 #[.pointer (some ⟨gb, 0, none⟩)] _ _ _ rfl (by kernel_rfl) e_0]
        simp [e_1, e_2]
      · refine (HC10.out wq (HB.out.then (But.of_ev c.ev))).mono ?_
        rintro e wp ⟨rfl, hE_⟩
        exact ⟨_, rfl, hE_, rfl⟩
    · refine op_value fun a w c => ⟨(wanted_yes rfl (by kernel_rfl) (c.new 3 21 (by kernel_rfl) (by kernel_rfl))), .bool true, ?_, rfl⟩
      have e32 : a.eval (.tmp 32) = .int .i64 r10 := (c.new 14 32 (by kernel_rfl) (by kernel_rfl))
      have kc0 : a.eval (.const (.int .i64 0)) = .int .i64 0 := rfl
      generalize a.eval = ρ at e32 kc0 ⊢
      simp [execOp, e32, kc0, go_sem, hr10]
    · refine op_value fun a w c => ⟨(wanted_plain rfl), _, run_pick_true rfl (c.new 3 21 (by kernel_rfl) (by kernel_rfl)) w, (c.new 15 33 (by kernel_rfl) (by kernel_rfl))⟩
  intro s w4 hE hold hnew
  have f0 : s 0 = .slice (some ⟨go, 0, none⟩) 2 2 := hold 0 (by kernel_rfl)
  have f1 : s 1 = .int .i64 0 := hold 1 (by kernel_rfl)
  have f2 : s 2 = .int .i64 2 := hold 2 (by kernel_rfl)
  have f3 : s 3 = .func (.func 123) #[] #[.pointer (some ⟨gb, 0, none⟩)] := hold 3 (by kernel_rfl)
  have f8 : s 8 = .int .i64 1 := hold 8 (by kernel_rfl)
  have f9 : s 9 = .int .i64 1 := hold 9 (by kernel_rfl)
  have f18 : s 18 = .int .i64 1 := hnew 0 18 (by kernel_rfl)
  have f19 : s 19 = .int .i64 0 := hnew 1 19 (by kernel_rfl)
  have f20 : s 20 = .bool true := hnew 2 20 (by kernel_rfl)
  have f21 : s 21 = .bool true := hnew 3 21 (by kernel_rfl)
  have f22 : s 22 = .func (.func 123) #[] #[.pointer (some ⟨gb, 0, none⟩)] := hnew 4 22 (by kernel_rfl)
  have f23 : s 23 = .slice (some ⟨go, 0, none⟩) 2 2 := hnew 5 23 (by kernel_rfl)
  have f24 : s 24 = .int .i64 1 := hnew 6 24 (by kernel_rfl)
  have f25 : s 25 = .pointer (some ⟨go, 1, none⟩) := hnew 7 25 (by kernel_rfl)
  have f26 : s 26 = .int .i64 1 := hnew 8 26 (by kernel_rfl)
  have f27 : s 27 = .slice (some ⟨go, 0, none⟩) 2 2 := hnew 9 27 (by kernel_rfl)
  have f28 : s 28 = .int .i64 1 := hnew 10 28 (by kernel_rfl)
  have f29 : s 29 = .int .i64 0 := hnew 11 29 (by kernel_rfl)
  have f30 : s 30 = .pointer (some ⟨go, 0, none⟩) := hnew 12 30 (by kernel_rfl)
  have f31 : s 31 = .int .i64 0 := hnew 13 31 (by kernel_rfl)
  have f32 : s 32 = .int .i64 r10 := hnew 14 32 (by kernel_rfl)
  have f33 : s 33 = .bool true := hnew 15 33 (by kernel_rfl)
  have f34 : s 34 = .bool true := hnew 16 34 (by kernel_rfl)
  change Exit.then _ _ .normal ⟨#[s 0, s 1, s 2, s 3, s 4, s 5, s 6, s 7, s 8, s 9, s 10, s 11, s 12, s 13, s 14, s 15, s 16, s 17, s 18, s 19, s 20, s 21, s 22, s 23, s 24, s 25, s 26, s 27, s 28, s 29, s 30, s 31, s 32, s 33, s 34, s 35, s 36, s 37, s 38, s 39, s 40, s 41, s 42, s 43, s 44, s 45, s 46, s 47, s 48, s 49, s 50, s 51, s 52], _⟩ _
  simp only [f0, f1, f2, f3, f8, f9, f18, f19, f20, f21, f22, f23, f24, f25, f26, f27, f28, f29, f30, f31, f32, f33, f34]
  clear hold hnew
  have HB := Lib.hid (HB.out.then (But.of_ev hE))
  have HO := Lib.hid (HO.out.ev hE)
  clear hE o0 o1 z0 z1 hgo
  go_wp2
  refine wp_region_slotsG hmix (fun u => But [go] w4 u) (fun _ u u' => But [go] u u') [15, 17] (fun p u => match p with | 0 => Bx 3 go #[.int .i64 0, .int .i64 1] u | 1 => Bx 3 go #[.int .i64 0, .int .i64 0] u | _ + 2 => Bx 3 go #[.int .i64 1, .int .i64 0] u) [] [[], []] 15 [fun v _ => v = .slice (some ⟨go, 0, none⟩) 2 2, fun v _ => v = .int .i64 1, fun v _ => v = .slice (some ⟨go, 0, none⟩) 2 2, fun v _ => v = .int .i64 1, fun v _ => v = .int .i64 0, fun v _ => v = .slice (some ⟨go, 0, none⟩) 2 2, fun v _ => v = .int .i64 1, fun v _ => v = .int .i64 0, fun v _ => v = .pointer (some ⟨go, 0, none⟩), fun v _ => v = .int .i64 0, fun v _ => v = .slice (some ⟨go, 0, none⟩) 2 2, fun v _ => v = .int .i64 1, fun v _ => v = .pointer (some ⟨go, 1, none⟩), fun v _ => v = .int .i64 1, fun v _ => v = .pointer (some ⟨go, 1, none⟩), fun _ _ => True, fun v _ => v = .pointer (some ⟨go, 0, none⟩), fun _ _ => True]
    53 2 rfl (by kernel_rfl) ⟨mono_eq _, mono_eq _, mono_eq _, mono_eq _, mono_eq _, mono_eq _, mono_eq _, mono_eq _, mono_eq _, mono_eq _, mono_eq _, mono_eq _, mono_eq _, mono_eq _, mono_eq _, mono_true, mono_eq _, mono_true, trivial⟩ ⟨Or.inr fun p => Or.inr fun _ _ _ _ h => h, Or.inr fun p => Or.inr fun _ _ _ _ h => h, Or.inr fun p => Or.inr fun _ _ _ _ h => h, Or.inr fun p => Or.inr fun _ _ _ _ h => h, Or.inr fun p => Or.inr fun _ _ _ _ h => h, Or.inr fun p => Or.inr fun _ _ _ _ h => h, Or.inr fun p => Or.inr fun _ _ _ _ h => h, Or.inr fun p => Or.inr fun _ _ _ _ h => h, Or.inr fun p => Or.inr fun _ _ _ _ h => h, Or.inr fun p => Or.inr fun _ _ _ _ h => h, Or.inr fun p => Or.inr fun _ _ _ _ h => h, Or.inr fun p => Or.inr fun _ _ _ _ h => h, Or.inr fun p => Or.inr fun _ _ _ _ h => h, Or.inr fun p => Or.inr fun _ _ _ _ h => h, Or.inr fun p => Or.inr fun _ _ _ _ h => h, Or.inr fun p => Or.inr fun _ _ _ _ h => h, Or.inr fun p => Or.inr fun _ _ _ _ h => h, Or.inr fun p => Or.inr fun _ _ _ _ h => h, trivial⟩ (by kernel_rfl) rfl (by kernel_rfl) (fun p w w' hE h => match p, h with | 0, h => Bx.ev h hE | 1, h => Bx.ev h hE | _ + 2, h => Bx.ev h hE) (fun w w' hE h => h.then (But.of_ev hE)) (But.refl _ _) (HO.out) (by kernel_rfl) (fun _ _ u => Bx 3 go #[.int .i64 0, .int .i64 1] u) [9, 13] (by kernel_rfl) (fun _ _ _ _ _ _ _ _ hE h => Bx.ev h hE) (fun _ _ => HO.out) ?_ ?_ ?_ ?_
  · refine opc_cons 0 ?_ (opc_cons 1 ?_ (opc_cons 2 ?_ (opc_cons 3 ?_ (opc_cons 4 ?_ (opc_cons 5 ?_ (opc_cons 6 ?_ (opc_cons 7 ?_ (opc_cons 8 ?_ (opc_turn 9 (by decide) (opc_cons 10 ?_ (opc_cons 11 ?_ (opc_cons 12 ?_ (opc_turn 13 (by decide) (opc_cons 14 ?_ (opc_turn 15 (by decide) (opc_cons 16 ?_ (opc_turn 17 (by decide) (opc_nil 18))))))))))))))))))
    · refine opg_value fun a w c => ⟨(wanted_plain rfl), _, run_move _ rfl w, (c.was 0 (by kernel_rfl) rfl)⟩
    · refine opg_value fun a w c => ⟨(wanted_plain rfl), _, run_move _ rfl w, (c.was 9 (by kernel_rfl) rfl)⟩
    · refine opg_value fun a w c => ⟨(wanted_plain rfl), _, run_move _ rfl w, (c.was 0 (by kernel_rfl) rfl)⟩
    · refine opg_value fun a w c => ⟨(wanted_plain rfl), _, run_move _ rfl w, (c.was 9 (by kernel_rfl) rfl)⟩
    · refine opg_value fun a w c => ⟨(wanted_plain rfl), .int .i64 0, ?_, rfl⟩
      have e40 : a.eval (.tmp 40) = .int .i64 1 := (c.new 3 40 (by kernel_rfl) (by kernel_rfl) (by kernel_rfl))
      have kc0 : a.eval (.const (.int .i64 1)) = .int .i64 1 := rfl
      generalize a.eval = ρ at e40 kc0 ⊢
      simp [execOp, e40, kc0, go_sem, show IntKind.i64.wrap 0 = 0 from rfl]
    · refine opg_value fun a w c => ⟨(wanted_plain rfl), _, run_move _ rfl w, (c.was 0 (by kernel_rfl) rfl)⟩
    · refine opg_value fun a w c => ⟨(wanted_plain rfl), _, run_move _ rfl w, (c.was 9 (by kernel_rfl) rfl)⟩
    · refine opg_value fun a w c => ⟨(wanted_plain rfl), .int .i64 0, ?_, rfl⟩
      have e43 : a.eval (.tmp 43) = .int .i64 1 := (c.new 6 43 (by kernel_rfl) (by kernel_rfl) (by kernel_rfl))
      have kc0 : a.eval (.const (.int .i64 1)) = .int .i64 1 := rfl
      generalize a.eval = ρ at e43 kc0 ⊢
      simp [execOp, e43, kc0, go_sem, show IntKind.i64.wrap 0 = 0 from rfl]
    · refine opg_value fun a wq c => ⟨(wanted_plain rfl), .pointer (some ⟨go, 0, none⟩), ?_, rfl⟩
      have e_0 : a.eval (.tmp 42) = .slice (some ⟨go, 0, none⟩) 2 2 := (c.new 5 42 (by kernel_rfl) (by kernel_rfl) (by kernel_rfl))
      have e_1 : a.eval (.tmp 44) = .int .i64 0 := (c.new 7 44 (by kernel_rfl) (by kernel_rfl) (by kernel_rfl))
      generalize a.eval = ρ at e_0 e_1 ⊢
      simp [execOp, e_0, e_1, go_sem]
    · refine opg_value fun a w c => ⟨(wanted_plain rfl), _, run_move _ rfl w, (c.was 0 (by kernel_rfl) rfl)⟩
    · refine opg_value fun a w c => ⟨(wanted_plain rfl), _, run_move _ rfl w, (c.was 9 (by kernel_rfl) rfl)⟩
    · refine opg_value fun a wq c => ⟨(wanted_plain rfl), .pointer (some ⟨go, 1, none⟩), ?_, rfl⟩
      have e_0 : a.eval (.tmp 47) = .slice (some ⟨go, 0, none⟩) 2 2 := (c.new 10 47 (by kernel_rfl) (by kernel_rfl) (by kernel_rfl))
      have e_1 : a.eval (.tmp 48) = .int .i64 1 := (c.new 11 48 (by kernel_rfl) (by kernel_rfl) (by kernel_rfl))
      generalize a.eval = ρ at e_0 e_1 ⊢
      simp [execOp, e_0, e_1, go_sem]
    · refine opg_value fun a wq c => ⟨(wanted_plain rfl), .pointer (some ⟨go, 1, none⟩), ?_, rfl⟩
      have e_0 : a.eval (.tmp 37) = .slice (some ⟨go, 0, none⟩) 2 2 := (c.new 0 37 (by kernel_rfl) (by kernel_rfl) (by kernel_rfl))
      have e_1 : a.eval (.tmp 38) = .int .i64 1 := (c.new 1 38 (by kernel_rfl) (by kernel_rfl) (by kernel_rfl))
      generalize a.eval = ρ at e_0 e_1 ⊢
      simp [execOp, e_0, e_1, go_sem]
    · refine opg_value fun a wq c => ⟨(wanted_plain rfl), .pointer (some ⟨go, 0, none⟩), ?_, rfl⟩
      have e_0 : a.eval (.tmp 39) = .slice (some ⟨go, 0, none⟩) 2 2 := (c.new 2 39 (by kernel_rfl) (by kernel_rfl) (by kernel_rfl))
      have e_1 : a.eval (.tmp 41) = .int .i64 0 := (c.new 4 41 (by kernel_rfl) (by kernel_rfl) (by kernel_rfl))
      generalize a.eval = ρ at e_0 e_1 ⊢
      simp [execOp, e_0, e_1, go_sem]
  · refine sps_cons rfl ?_ (sps_cons rfl ?_ sps_nil)
    · refine ops_makes fun a wq L c hs hp hu hg => ⟨wanted_plain rfl, .int .i64 0, wq, ?_, Ev.refl _, c.inv, rfl, fun _ _ _ => hg⟩
      have e_0 : a.eval (.tmp 45) = .pointer (some ⟨go, 0, none⟩) := (c.new 8 45 (by kernel_rfl) (by kernel_rfl) (by kernel_rfl))
      obtain ⟨⟨o0, o1⟩, z0, z1⟩ := Bx.two hg
      have hgo := hg.lt
      generalize a.eval = ρ at e_0 ⊢
      simp [execOp, e_0, go_sem, o0]
    · refine ops_makes fun a wq L c hs hp hu hg => ⟨wanted_plain rfl, .int .i64 1, wq, ?_, Ev.refl _, c.inv, rfl, fun _ _ _ => hg⟩
      have e_0 : a.eval (.tmp 49) = .pointer (some ⟨go, 1, none⟩) := (c.new 12 49 (by kernel_rfl) (by kernel_rfl) (by kernel_rfl))
      obtain ⟨⟨o0, o1⟩, z0, z1⟩ := Bx.two hg
      have hgo := hg.lt
      generalize a.eval = ρ at e_0 ⊢
      simp [execOp, e_0, go_sem, o1]
  · refine trn_cons 0 rfl ?_ (trn_cons 1 rfl ?_ (trn_nil 2))
    · refine opv_store rfl fun a wq c hst hgl => ⟨wanted_plain rfl, wq.setCell ⟨go, 1, none⟩ (.int .i64 0), ?_, But.setCell _ _ (by simp), (show But _ _ _ from c.inv).then (But.setCell ⟨go, 1, none⟩ _ (by simp)), ?_, trivial⟩
      · have e_0 : a.eval (.tmp 51) = .pointer (some ⟨go, 1, none⟩) := (c.new 14 51 (by kernel_rfl) (by kernel_rfl) (by kernel_rfl))
        have e_1 : a.eval (.tmp 46) = .int .i64 0 := (c.new 9 46 (by kernel_rfl) (by kernel_rfl) (by kernel_rfl))
        have hst : Bx 3 go #[.int .i64 0, .int .i64 1] wq := hst
        obtain ⟨⟨o0, o1⟩, z0, z1⟩ := hst.two
        have hgo := hst.lt
        generalize a.eval = ρ at e_0 e_1 ⊢
        simp [execOp, e_0, e_1, go_sem, o1, z1]
      · have := Bx.set (show Bx 3 go #[.int .i64 0, .int .i64 1] wq from hst) 1 (.int .i64 0)
        simpa using this
    · refine opv_store rfl fun a wq c hst hgl => ⟨wanted_plain rfl, wq.setCell ⟨go, 0, none⟩ (.int .i64 1), ?_, But.setCell _ _ (by simp), (show But _ _ _ from c.inv).then (But.setCell ⟨go, 0, none⟩ _ (by simp)), ?_, trivial⟩
      · have e_0 : a.eval (.tmp 52) = .pointer (some ⟨go, 0, none⟩) := (c.new 16 52 (by kernel_rfl) (by kernel_rfl) (by kernel_rfl))
        have e_1 : a.eval (.tmp 50) = .int .i64 1 := (c.new 13 50 (by kernel_rfl) (by kernel_rfl) (by kernel_rfl))
        have hst : Bx 3 go #[.int .i64 0, .int .i64 0] wq := hst
        obtain ⟨⟨o0, o1⟩, z0, z1⟩ := hst.two
        have hgo := hst.lt
        generalize a.eval = ρ at e_0 e_1 ⊢
        simp [execOp, e_0, e_1, go_sem, o0, z0]
      · have := Bx.set (show Bx 3 go #[.int .i64 0, .int .i64 0] wq from hst) 0 (.int .i64 1)
        simpa using this
  intro sx w5 hI hold hnew hst
  have f0 : sx 0 = .slice (some ⟨go, 0, none⟩) 2 2 := hold 0 (by kernel_rfl)
  have f1 : sx 1 = .int .i64 0 := hold 1 (by kernel_rfl)
  have f2 : sx 2 = .int .i64 2 := hold 2 (by kernel_rfl)
  have f3 : sx 3 = .func (.func 123) #[] #[.pointer (some ⟨gb, 0, none⟩)] := hold 3 (by kernel_rfl)
  have f8 : sx 8 = .int .i64 1 := hold 8 (by kernel_rfl)
  have f9 : sx 9 = .int .i64 1 := hold 9 (by kernel_rfl)
  have f37 : sx 37 = .slice (some ⟨go, 0, none⟩) 2 2 := hnew 0 37 (by kernel_rfl) (by kernel_rfl)
  have f38 : sx 38 = .int .i64 1 := hnew 1 38 (by kernel_rfl) (by kernel_rfl)
  have f39 : sx 39 = .slice (some ⟨go, 0, none⟩) 2 2 := hnew 2 39 (by kernel_rfl) (by kernel_rfl)
  have f40 : sx 40 = .int .i64 1 := hnew 3 40 (by kernel_rfl) (by kernel_rfl)
  have f41 : sx 41 = .int .i64 0 := hnew 4 41 (by kernel_rfl) (by kernel_rfl)
  have f42 : sx 42 = .slice (some ⟨go, 0, none⟩) 2 2 := hnew 5 42 (by kernel_rfl) (by kernel_rfl)
  have f43 : sx 43 = .int .i64 1 := hnew 6 43 (by kernel_rfl) (by kernel_rfl)
  have f44 : sx 44 = .int .i64 0 := hnew 7 44 (by kernel_rfl) (by kernel_rfl)
  have f45 : sx 45 = .pointer (some ⟨go, 0, none⟩) := hnew 8 45 (by kernel_rfl) (by kernel_rfl)
  have f46 : sx 46 = .int .i64 0 := hnew 9 46 (by kernel_rfl) (by kernel_rfl)
  have f47 : sx 47 = .slice (some ⟨go, 0, none⟩) 2 2 := hnew 10 47 (by kernel_rfl) (by kernel_rfl)
  have f48 : sx 48 = .int .i64 1 := hnew 11 48 (by kernel_rfl) (by kernel_rfl)
  have f49 : sx 49 = .pointer (some ⟨go, 1, none⟩) := hnew 12 49 (by kernel_rfl) (by kernel_rfl)
  have f50 : sx 50 = .int .i64 1 := hnew 13 50 (by kernel_rfl) (by kernel_rfl)
  have f51 : sx 51 = .pointer (some ⟨go, 1, none⟩) := hnew 14 51 (by kernel_rfl) (by kernel_rfl)
  have f52 : sx 52 = .pointer (some ⟨go, 0, none⟩) := hnew 16 52 (by kernel_rfl) (by kernel_rfl)
  change Exit.inBlock _ _ .normal ⟨#[sx 0, sx 1, sx 2, sx 3, sx 4, sx 5, sx 6, sx 7, sx 8, sx 9, sx 10, sx 11, sx 12, sx 13, sx 14, sx 15, sx 16, sx 17, sx 18, sx 19, sx 20, sx 21, sx 22, sx 23, sx 24, sx 25, sx 26, sx 27, sx 28, sx 29, sx 30, sx 31, sx 32, sx 33, sx 34, sx 35, sx 36, sx 37, sx 38, sx 39, sx 40, sx 41, sx 42, sx 43, sx 44, sx 45, sx 46, sx 47, sx 48, sx 49, sx 50, sx 51, sx 52], _⟩ _
  simp only [f0, f1, f2, f3, f8, f9, f37, f38, f39, f40, f41, f42, f43, f44, f45, f46, f47, f48, f49, f50, f51, f52]
  clear hold hnew
  have HB := Lib.hid (HB.out.then hI)
  have HO := Lib.hid (show Bx 3 go #[.int .i64 1, .int .i64 0] w5 from hst)
  clear hI hst
  go_wp2
  rw [rounds_succ]
  go_wp2
  obtain ⟨⟨o0, o1⟩, z0, z1⟩ := (HO.out).two
  have hgo := (HO.out).lt
  refine wp_region_slots hmix [fun v _ => v = .int .i64 0, fun v _ => v = .int .i64 0, fun v _ => v = .bool false, fun v _ => v = .bool false, fun _ _ => True, fun _ _ => True, fun _ _ => True, fun _ _ => True, fun _ _ => True, fun _ _ => True, fun _ _ => True, fun _ _ => True, fun _ _ => True, fun _ _ => True, fun _ _ => True, fun _ _ => True, fun v _ => v = .bool false]
    53 rfl (by kernel_rfl) ⟨mono_eq _, mono_eq _, mono_eq _, mono_eq _, mono_true, mono_true, mono_true, mono_true, mono_true, mono_true, mono_true, mono_true, mono_true, mono_true, mono_true, mono_true, mono_eq _, trivial⟩ ?_ ?_
  · refine ops_cons 0 ?_ (ops_cons 1 ?_ (ops_cons 2 ?_ (ops_cons 3 ?_ (ops_cons 4 ?_ (ops_cons 5 ?_ (ops_cons 6 ?_ (ops_cons 7 ?_ (ops_cons 8 ?_ (ops_cons 9 ?_ (ops_cons 10 ?_ (ops_cons 11 ?_ (ops_cons 12 ?_ (ops_cons 13 ?_ (ops_cons 14 ?_ (ops_cons 15 ?_ (ops_cons 16 ?_ (ops_nil 17)))))))))))))))))
    · refine op_value fun a w c => ⟨(wanted_plain rfl), _, run_move _ rfl w, (c.was 9 (by kernel_rfl) rfl)⟩
    · refine op_value fun a w c => ⟨(wanted_plain rfl), _, run_move _ rfl w, (c.was 1 (by kernel_rfl) rfl)⟩
    · refine op_value fun a w c => ⟨(wanted_plain rfl), .bool false, ?_, rfl⟩
      have e18 : a.eval (.tmp 18) = .int .i64 0 := (c.new 0 18 (by kernel_rfl) (by kernel_rfl))
      have e19 : a.eval (.tmp 19) = .int .i64 0 := (c.new 1 19 (by kernel_rfl) (by kernel_rfl))
      generalize a.eval = ρ at e18 e19 ⊢
      simp [execOp, e18, e19, go_sem]
    · refine op_value fun a w c => ⟨(wanted_plain rfl), _, run_move _ rfl w, (c.new 2 20 (by kernel_rfl) (by kernel_rfl))⟩
    · refine op_skip fun a w c => ⟨(wanted_no rfl (by kernel_rfl) (c.new 3 21 (by kernel_rfl) (by kernel_rfl)) (by decide)), trivial⟩
    · refine op_skip fun a w c => ⟨(wanted_no rfl (by kernel_rfl) (c.new 3 21 (by kernel_rfl) (by kernel_rfl)) (by decide)), trivial⟩
    · refine op_skip fun a w c => ⟨(wanted_no rfl (by kernel_rfl) (c.new 3 21 (by kernel_rfl) (by kernel_rfl)) (by decide)), trivial⟩
    · refine op_skip fun a w c => ⟨(wanted_no rfl (by kernel_rfl) (c.new 3 21 (by kernel_rfl) (by kernel_rfl)) (by decide)), trivial⟩
    · refine op_skip fun a w c => ⟨(wanted_no rfl (by kernel_rfl) (c.new 3 21 (by kernel_rfl) (by kernel_rfl)) (by decide)), trivial⟩
    · refine op_skip fun a w c => ⟨(wanted_no rfl (by kernel_rfl) (c.new 3 21 (by kernel_rfl) (by kernel_rfl)) (by decide)), trivial⟩
    · refine op_skip fun a w c => ⟨(wanted_no rfl (by kernel_rfl) (c.new 3 21 (by kernel_rfl) (by kernel_rfl)) (by decide)), trivial⟩
    · refine op_skip fun a w c => ⟨(wanted_no rfl (by kernel_rfl) (c.new 3 21 (by kernel_rfl) (by kernel_rfl)) (by decide)), trivial⟩
    · refine op_skip fun a w c => ⟨(wanted_no rfl (by kernel_rfl) (c.new 3 21 (by kernel_rfl) (by kernel_rfl)) (by decide)), trivial⟩
    · refine op_skip fun a w c => ⟨(wanted_no rfl (by kernel_rfl) (c.new 3 21 (by kernel_rfl) (by kernel_rfl)) (by decide)), trivial⟩
    · refine op_skip fun a w c => ⟨(wanted_no rfl (by kernel_rfl) (c.new 3 21 (by kernel_rfl) (by kernel_rfl)) (by decide)), trivial⟩
    · refine op_skip fun a w c => ⟨(wanted_no rfl (by kernel_rfl) (c.new 3 21 (by kernel_rfl) (by kernel_rfl)) (by decide)), trivial⟩
    · refine op_value fun a w c => ⟨(wanted_plain rfl), _, run_pick_false rfl (c.new 3 21 (by kernel_rfl) (by kernel_rfl)) w, (evc a _)⟩
  intro s w6 hE hold hnew
  have f0 : s 0 = .slice (some ⟨go, 0, none⟩) 2 2 := hold 0 (by kernel_rfl)
  have f1 : s 1 = .int .i64 0 := hold 1 (by kernel_rfl)
  have f2 : s 2 = .int .i64 2 := hold 2 (by kernel_rfl)
  have f3 : s 3 = .func (.func 123) #[] #[.pointer (some ⟨gb, 0, none⟩)] := hold 3 (by kernel_rfl)
  have f8 : s 8 = .int .i64 1 := hold 8 (by kernel_rfl)
  have f9 : s 9 = .int .i64 0 := hold 9 (by kernel_rfl)
  have f18 : s 18 = .int .i64 0 := hnew 0 18 (by kernel_rfl)
  have f19 : s 19 = .int .i64 0 := hnew 1 19 (by kernel_rfl)
  have f20 : s 20 = .bool false := hnew 2 20 (by kernel_rfl)
  have f21 : s 21 = .bool false := hnew 3 21 (by kernel_rfl)
  have f34 : s 34 = .bool false := hnew 16 34 (by kernel_rfl)
  change Exit.then _ _ .normal ⟨#[s 0, s 1, s 2, s 3, s 4, s 5, s 6, s 7, s 8, s 9, s 10, s 11, s 12, s 13, s 14, s 15, s 16, s 17, s 18, s 19, s 20, s 21, s 22, s 23, s 24, s 25, s 26, s 27, s 28, s 29, s 30, s 31, s 32, s 33, s 34, s 35, s 36, s 37, s 38, s 39, s 40, s 41, s 42, s 43, s 44, s 45, s 46, s 47, s 48, s 49, s 50, s 51, s 52], _⟩ _
  simp only [f0, f1, f2, f3, f8, f9, f18, f19, f20, f21, f34]
  clear hold hnew
  have HB := Lib.hid (HB.out.then (But.of_ev hE))
  have HO := Lib.hid (HO.out.ev hE)
  clear hE o0 o1 z0 z1 hgo
  go_wp2
  rw [rounds_succ]
  go_wp2
  go_end0
  exact ⟨rfl, HO.out, HB.out⟩

set_option maxRecDepth 100000 in
set_option maxHeartbeats 1600000 in
theorem pdq_twoS (go gb : Nat) (r lim : Int) (w : World) (hO : Bx 3 go #[.int .i64 0, .int .i64 1] w) (hr0 : r < 0) (hC : ∀ w1, But [go] w w1 → Calls Tryz.prog 123 #[.int .i64 1, .int .i64 0, .pointer (some ⟨gb, 0, none⟩)] w1 fun e w' => e = .returned (.int .i64 r) ∧ Ev w1 w') :
    Calls Tryz.prog 133 #[.slice (some ⟨go, 0, none⟩) 2 2, .int .i64 0, .int .i64 2, .int .i64 lim, .func (.func 123) #[] #[.pointer (some ⟨gb, 0, none⟩)]] w fun e w' => e = .returned (.tuple #[]) ∧ Bx 3 go #[.int .i64 1, .int .i64 0] w' ∧ But [go] w w' := by
  have HI := Lib.hid (ins_twoS go gb r w hO hr0 hC)
  clear hO hC
  go_enter Tryz.func133, Tryz.ntmps133
  go_wp2
  refine wp_loop_rounds 1 ?_
  rw [rounds_succ]
  go_wp2_with ((with_reducible refine (HI.out).mono ?_); rintro e w1 ⟨rfl, hB1, hE1⟩)
  (try simp only [Exit.inBlock, Exit.then])
  refine bodyPost_ret (results_none rfl _ _ _) rfl ?_
  exact ⟨rfl, hB1, hE1⟩
set_option maxRecDepth 100000 in
set_option maxHeartbeats 1600000 in
theorem sort_twoS (go gb : Nat) (r : Int) (w : World) (hO : Bx 3 go #[.int .i64 0, .int .i64 1] w) (hr0 : r < 0) (hC : ∀ w1, But [go] w w1 → Calls Tryz.prog 123 #[.int .i64 1, .int .i64 0, .pointer (some ⟨gb, 0, none⟩)] w1 fun e w' => e = .returned (.int .i64 r) ∧ Ev w1 w') :
    Calls Tryz.prog 122 #[.slice (some ⟨go, 0, none⟩) 2 2, .func (.func 123) #[] #[.pointer (some ⟨gb, 0, none⟩)]] w fun e w' => e = .returned (.tuple #[]) ∧ Bx 3 go #[.int .i64 1, .int .i64 0] w' ∧ But [go] w w' := by
  have HP := Lib.hid (fun lim => pdq_twoS go gb r lim w hO hr0 hC)
  have HL : Hid (∀ w1, Calls Tryz.prog 134 #[.int .u64 2] w1 fun e w' => ∃ k : Int, e = .returned (.int .i64 k) ∧ w' = w1) := Lib.hid fun w1 => (bits_len 2 w1 (by omega)).mono fun e w' h => ⟨_, h.1, h.2⟩
  clear hO hC
  go_enter Tryz.func122, Tryz.ntmps122
  go_wp2_with (first
    | ((with_reducible refine (HL.out _).mono ?_); rintro e w1 ⟨k, rfl, rfl⟩)
    | ((with_reducible refine (HP.out _).mono ?_); rintro e w1 ⟨rfl, hB1, hE1⟩))
  go_end0
  exact ⟨rfl, hB1, hE1⟩

set_option maxRecDepth 100000 in
set_option maxHeartbeats 6400000 in
theorem rep_twoS (bd dcap : Nat) (d0 d1 : DM) (w : World) (h : DsAt w (some ⟨bd, 0, none⟩) 2 dcap [d0, d1]) (hn : (d1.name == d0.name) = false) (hn' : (d0.name == d1.name) = false) (hc : cmpD d1 d0 1 0 < 0) :
    Calls Tryz.prog 111 #[.slice (some ⟨bd, 0, none⟩) 2 dcap] w fun e w' => e = .returned (.int .i64 2) ∧ Ev w w' := by
  have hcp := h.sl.le
  have hcm := h.sl.max
  have hmix : Tryz.prog.follows .mixedOrders = true := by kernel_rfl
  have hmf : ∀ (fn : Fn) (first cap : Array Value) (w : World), (Instr.makeFunc fn first cap).run Tryz.prog w = .ok (.func fn first cap) w := fun _ _ _ _ => rfl
  obtain ⟨w0, hw0, hE0, hBx, hs0⟩ := bx_34 w (.slice (some ⟨bd, 0, none⟩) 2 dcap)
  have HB := Lib.hid hBx
  have hl0 : w0.cell? ⟨w.heap.size, 0, none⟩ = some (.slice (some ⟨bd, 0, none⟩) 2 dcap) := hBx.cell 0
  have HC := Lib.hid (fun w1 (hE : Ev w0 w1) => rep_cmp w.heap.size bd 0 2 dcap [d0, d1] 1 0 d1 d0 w1 (hBx.ev hE) (h.ev (hE0.trans hE)) rfl rfl)
  have HE0 := Lib.hid hE0
  have hB1 := Bx.new 3 #[.int .i64 0, .int .i64 0] w0
  obtain ⟨⟨o0, o1⟩, z0, z1⟩ := hB1.two
  have hmk := make_2 w0
  have HN : Hid (∀ w1, Ev w0 w1 → bd < w1.heap.size ∧ w1.cell? ⟨bd, 0, none⟩ = some (.string ⟨d0.name.toArray⟩) ∧ w1.cell? ⟨bd, 2, none⟩ = some (.string ⟨d1.name.toArray⟩)) := Lib.hid fun w1 hE => by
    have h1 := h.ev (hE0.trans hE)
    obtain ⟨b, o, e, hbl, c0, _⟩ := h1.cell (i := 0) (d := d0) rfl
    obtain ⟨b', o', e', _, c1, _⟩ := h1.cell (i := 1) (d := d1) rfl
    injection e with e
    injection e with e1 e2 _
    injection e' with e'
    injection e' with e3 e4 _
    subst e1; subst e2; subst e3; subst e4
    exact ⟨hbl, c0, c1⟩
  clear hBx h hE0 hB1
  go_enter Tryz.func111, Tryz.ntmps111
  go_wp2
  refine wp_loop_rounds 3 ?_
  rw [rounds_succ]
  go_wp2
  rw [rounds_succ]
  go_wp2
  rw [rounds_succ]
  go_upto_region 7 with fail
  obtain ⟨w5, hw5⟩ : ∃ w5, w5 = w0.alloc (.cells #[.int .i64 0, .int .i64 1] 3) := ⟨_, rfl⟩
  rw [← hw5]
  have hB5 := Bx.new 3 #[.int .i64 0, .int .i64 1] w0
  rw [← hw5, hs0] at hB5
  have hE5 : Ev w0 w5 := by rw [hw5]; exact Ev.alloc _ _
  have HE5 := Lib.hid hE5
  have HUP : Hid (∀ w1, But [w.heap.size + 1] w5 w1 → Ev w0 w1) := Lib.hid (fun w1 hb => ((But.of_ev (K := [w.heap.size + 1]) hE5).then hb).ev fun k hk => by simp at hk; omega)
  have HS := Lib.hid (sort_twoS (w.heap.size + 1) w.heap.size _ w5 hB5 hc fun w1 hb => HC.out w1 (HUP.out w1 hb))
  clear hw5 hB5 hE5 o0 o1 z0 z1 hmk hw0
  have l5 := (HE5.out.cell (p := ⟨w.heap.size, 0, none⟩) (show w.heap.size < w0.heap.size by omega)).trans hl0
  clear hl0
  go_wp2_with ((with_reducible refine (HS.out).mono ?_); rintro e w6 ⟨rfl, hO6, hb6⟩; have HE6 := Lib.hid (HUP.out _ hb6); have hl6 : w6.cell? ⟨w.heap.size, 0, none⟩ = some (.slice (some ⟨bd, 0, none⟩) 2 dcap) := (HB.out.ev (HUP.out _ hb6)).cell 0; have hg5 := hO6.lt; obtain ⟨⟨o0, o1⟩, _⟩ := hO6.two; obtain ⟨hbl, n0, n1⟩ := HN.out w6 (HUP.out _ hb6); clear hO6 hb6 l5)
  refine wp_loop_rounds 2 ?_
  rw [rounds_succ]
  go_upto_region 12 with fail
  go_quiet (fail)
  go_wp2
  rw [rounds_succ]
  go_wp2
  go_ret
  exact ⟨rfl, (HE0.out.trans HE6.out).trans (Ev.drewN w6 nq)⟩

set_option maxRecDepth 100000 in
set_option maxHeartbeats 6400000 in
theorem defs_2S (bd dcap : Nat) (d0 d1 : DM) (w : World) (hD : DsAt w (some ⟨bd, 0, none⟩) 2 dcap [d0, d1]) (hn : (d1.name == d0.name) = false) (hn' : (d0.name == d1.name) = false) (hc : cmpD d1 d0 1 0 < 0) (hn0 : nameV ⟨d0.name.toArray⟩ = true) (hn1 : nameV ⟨d1.name.toArray⟩ = true) (hc0 : colsV d0.cols = 0) (hc1 : colsV d1.cols = 0) :
    Calls Tryz.prog 88 #[.slice (some ⟨bd, 0, none⟩) 2 dcap] w fun e w' => e = .returned (.int .i64 0) ∧ Ev w w' := by
  have hcp := hD.sl.le
  have hcm := hD.sl.max
  have HR := Lib.hid (rep_twoS bd dcap d0 d1 w hD hn hn' hc)
  have HN : Hid (∀ w1, Ev w w1 → bd < w1.heap.size ∧ w1.cell? ⟨bd, 0, none⟩ = some (.string ⟨d0.name.toArray⟩) ∧ w1.cell? ⟨bd, 1, none⟩ = some (.slice d0.A d0.cols.length d0.cap) ∧ w1.cell? ⟨bd, 2, none⟩ = some (.string ⟨d1.name.toArray⟩) ∧ w1.cell? ⟨bd, 3, none⟩ = some (.slice d1.A d1.cols.length d1.cap)) := Lib.hid fun w1 hE => by
    have h1 := hD.ev hE
    obtain ⟨b, o, e, hbl, c0, c1⟩ := h1.cell (i := 0) (d := d0) rfl
    obtain ⟨b', o', e', _, c2, c3⟩ := h1.cell (i := 1) (d := d1) rfl
    injection e with e
    injection e with e1 e2 _
    injection e' with e'
    injection e' with e3 e4 _
    subst e1; subst e2; subst e3; subst e4
    exact ⟨hbl, c0, c1, c2, c3⟩
  have HNT := Lib.hid (fun w1 => row_name ⟨d0.name.toArray⟩ w1)
  have HNU := Lib.hid (fun w1 => row_name ⟨d1.name.toArray⟩ w1)
  have HCT : Hid (∀ w1, Ev w w1 → Calls Tryz.prog 113 #[.slice d0.A d0.cols.length d0.cap] w1 fun e w' => e = .returned (.int .i64 (colsV d0.cols)) ∧ Ev w1 w') := Lib.hid (fun w1 (hE : Ev w w1) => row_columns w1 ((hD.cols d0 (by simp)).ev hE))
  have HCU : Hid (∀ w1, Ev w w1 → Calls Tryz.prog 113 #[.slice d1.A d1.cols.length d1.cap] w1 fun e w' => e = .returned (.int .i64 (colsV d1.cols)) ∧ Ev w1 w') := Lib.hid (fun w1 (hE : Ev w w1) => row_columns w1 ((hD.cols d1 (by simp)).ev hE))
  rw [hn0] at HNT
  rw [hn1] at HNU
  rw [hc0] at HCT
  rw [hc1] at HCU
  clear hD hn hn' hc hn0 hn1 hc0 hc1
  go_enter Tryz.func88, Tryz.ntmps88
  go_wp2_with ((with_reducible refine (HR.out).mono ?_); rintro e w1 ⟨rfl, hE1⟩; have HE1 := Lib.hid hE1; obtain ⟨hbl, c0, c1, c2, c3⟩ := HN.out w1 hE1; clear hE1)
  refine wp_loop_rounds 3 ?_
  rw [rounds_succ]
  have hX := Bx.new 148 #[.string ⟨d0.name.toArray⟩, .slice d0.A d0.cols.length d0.cap] w1
  obtain ⟨⟨b0, b1⟩, _⟩ := hX.two
  go_wp2_with (first
    | ((with_reducible refine (HNT.out _).mono ?_); rintro e w2 ⟨rfl, hE⟩; have E2 := Lib.hid (HE1.out.trans ((Ev.alloc w1 _).trans hE)); clear b0 b1; obtain ⟨⟨b0, b1⟩, _⟩ := (hX.ev hE).two; clear hE)
    | ((with_reducible refine (HCT.out _ E2.out).mono ?_); rintro e w3 ⟨rfl, hE⟩; have HE3 := Lib.hid (E2.out.trans hE); clear hbl c0 c1 c2 c3; obtain ⟨hbl, c0, c1, c2, c3⟩ := HN.out w3 HE3.out; clear hE E2))
  clear hX b0 b1
  rw [rounds_succ]
  have hX := Bx.new 148 #[.string ⟨d1.name.toArray⟩, .slice d1.A d1.cols.length d1.cap] w3
  obtain ⟨⟨b0, b1⟩, _⟩ := hX.two
  go_wp2_with (first
    | ((with_reducible refine (HNU.out _).mono ?_); rintro e w4 ⟨rfl, hE⟩; have E2 := Lib.hid (HE3.out.trans ((Ev.alloc w3 _).trans hE)); clear b0 b1; obtain ⟨⟨b0, b1⟩, _⟩ := (hX.ev hE).two; clear hE)
    | ((with_reducible refine (HCU.out _ E2.out).mono ?_); rintro e w5 ⟨rfl, hE⟩; have HE5 := Lib.hid (E2.out.trans hE); clear hbl c0 c1 c2 c3; obtain ⟨hbl, c0, c1, c2, c3⟩ := HN.out w5 HE5.out; clear hE E2))
  clear hX b0 b1
  rw [rounds_succ]
  go_wp2
  go_ret
  exact ⟨rfl, HE5.out⟩

def utF : List Df := [([117], ucols), ([116], tcols)]
theorem defs_two_okS (n0 n1 : By) (c0 c1 : List C) (hn : (n1 == n0) = false) (hn' : (n0 == n1) = false) (hcm : or2 (cmpS ⟨n1.toArray⟩ ⟨n0.toArray⟩) (cmpI ((1 : Nat) : Int) ((0 : Nat) : Int)) < 0) (h0 : nameV ⟨n0.toArray⟩ = true) (h1 : nameV ⟨n1.toArray⟩ = true) (k0 : colsV c0 = 0) (k1 : colsV c1 = 0) : DefsOk [(n0, c0), (n1, c1)] := fun D A n cap w h hD hA => by
  match D, hD with
  | [d0, d1], hD =>
    injection hD with e0 hD
    injection hD with e1 _
    have a0 : d0.name = n0 := congrArg Prod.fst e0
    have a1 : d1.name = n1 := congrArg Prod.fst e1
    have b0 : d0.cols = c0 := congrArg Prod.snd e0
    have b1 : d1.cols = c1 := congrArg Prod.snd e1
    have hl := h.sl.len
    simp at hl
    subst hl
    obtain ⟨b, off, e, _⟩ := h.sl.rd (by omega)
    have h5 := hA _ e
    injection h5 with _ h6 _
    subst h6
    subst e
    exact defs_2S b cap d0 d1 w h (by rw [a0, a1]; exact hn) (by rw [a0, a1]; exact hn') (by unfold cmpD; rw [a0, a1]; exact hcm) (by rw [a0]; exact h0) (by rw [a1]; exact h1) (by rw [b0]; exact k0) (by rw [b1]; exact k1)
theorem ok_utA : DefsOk [([117], ucols), ([116], tcols)] := defs_two_okS _ _ _ _ rfl rfl (by decide +kernel) nu_ok nt_ok u_ok t_ok
theorem ok_ut : DefsOk utF := ok_utA
/-- What taken tells of so many changes. -/
def takenN (m : Nat) : Int := if 8 < m then 4 else if m = 0 then 1 else 0

set_option maxRecDepth 100000 in
set_option maxHeartbeats 6400000 in
theorem bt_taken {A : Option Addr} {n cap : Nat} {l : List TM} (w : World) (h : TsAt w A n cap l) (hr : TsRight l) (m : Nat) :
    Calls Tryz.prog 32 #[.slice A n cap, .int .i64 (m : Int)] w fun e w' => e = .returned (.int .i64 (takenN m)) ∧ Ev w w' := by
  have HR := Lib.hid (ev_Right w h hr)
  clear h hr
  unfold takenN
  by_cases h8 : 8 < m
  · have i8 : (m : Int) > 8 := by omega
    rw [if_pos h8]
    go_enter Tryz.func32, Tryz.ntmps32
    go_wp2_with (first
      | ((with_reducible refine (HR.out).mono ?_); rintro e w1 ⟨rfl, hE1⟩))
    go_ret
    exact ⟨rfl, hE1⟩
  · have i8 : ¬ (m : Int) > 8 := by omega
    rw [if_neg h8]
    by_cases h0 : m = 0
    · subst h0
      rw [if_pos rfl]
      go_enter Tryz.func32, Tryz.ntmps32
      go_wp2_with (first
        | ((with_reducible refine (HR.out).mono ?_); rintro e w1 ⟨rfl, hE1⟩))
      go_ret
      exact ⟨rfl, hE1⟩
    · have i0 : ¬ (m : Int) = 0 := by omega
      rw [if_neg h0]
      go_enter Tryz.func32, Tryz.ntmps32
      go_wp2_with (first
        | ((with_reducible refine (HR.out).mono ?_); rintro e w1 ⟨rfl, hE1⟩))
      go_ret
      exact ⟨rfl, hE1⟩
end Go.Proofs.YthpiobkghfdkkaaGreat
