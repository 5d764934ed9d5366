/-
  Texts that belong together: Package expr: what operations make of numbers and texts. Package expr: products; what an operation makes of two values. Package expr: what an operation makes of two values. Package expr: of how many operands an operation is; kinds of what it makes. The document's own count. Package expr: parts of an expression; is it right? Package expr: all parts of an expression; is it one that Read makes? Package expr: is an expression one that Read makes? Package expr: the kinds of what operations make. Package expr: the kind of an expression's value. Package expr: Type; what is evaluated is fair; choose. Package expr: evaluate, Eval. Package expr: Eval.
-/
import Derived.Laws.Bits64b
import Derived.Test.YtojbahjebfcmgaaGreatDoorZ15W
import Derived.Test.YtojbahjebfcmgaaGreatDoorZ10W
import Derived.Test.YtojbahjebfcmgaaGreatDoorZ8W
import Derived.Test.YtojbahjebfcmgaaGreatDoorZ0W
namespace Go.Proofs.YtojbahjebfcmgaaGreatDoor
open Go.RowKit
set_option linter.unusedVariables false

theorem Bx.three {T : TypeId} {g : Nat} {w : World} {v0 v1 v2 : Value} (h : Bx T g #[v0, v1, v2] w) : (w.cell? ⟨g, 0, none⟩ = some v0 ∧ w.cell? ⟨g, 1, none⟩ = some v1 ∧ w.cell? ⟨g, 2, none⟩ = some v2) ∧
    (w.frozen? ⟨g, 0, none⟩ = false ∧ w.frozen? ⟨g, 1, none⟩ = false ∧ w.frozen? ⟨g, 2, none⟩ = false) :=
  ⟨⟨h.cell 0, h.cell 1, h.cell 2⟩, h.frozen 0, h.frozen 1, h.frozen 2⟩
def set3 (g : Nat) (v0 v1 v2 : Value) (w : World) : World := ((w.setCell ⟨g, 0, none⟩ v0).setCell ⟨g, 1, none⟩ v1).setCell ⟨g, 2, none⟩ v2
theorem set3_but (g : Nat) (v0 v1 v2 : Value) (w : World) : But [g] w (set3 g v0 v1 v2 w) :=
  ((But.setCell ⟨g, 0, none⟩ _ (by simp)).then (But.setCell ⟨g, 1, none⟩ _ (by simp))).then (But.setCell ⟨g, 2, none⟩ _ (by simp))
theorem Bx.set3 {T : TypeId} {g : Nat} {w : World} {u0 u1 u2 : Value} (h : Bx T g #[u0, u1, u2] w) (v0 v1 v2 : Value) : Bx T g #[v0, v1, v2] (set3 g v0 v1 v2 w) := by
  have := ((h.set 0 v0).set 1 v1).set 2 v2
  rw [show ((((#[u0, u1, u2] : Array Value).setIfInBounds 0 v0).setIfInBounds 1 v1).setIfInBounds 2 v2) = #[v0, v1, v2] by simp] at this
  exact this
/-- The result's box as it is at first. -/
theorem vbox (w : World) : Bx 211 w.heap.size #[.int .i64 0, .int .i64 0, .string ⟨#[]⟩] (w.alloc (.cells #[.int .i64 0, .int .i64 0, .string ⟨#[]⟩] 211)) := Bx.new _ _ w

/-- Numbers of 64 bits. -/
def i64R (n : Int) : Prop := -9223372036854775808 ≤ n ∧ n ≤ 9223372036854775807
instance (n : Int) : Decidable (i64R n) := by unfold i64R; infer_instance
end Go.Proofs.YtojbahjebfcmgaaGreatDoor

namespace Go.Proofs.YtojbahjebfcmgaaGreatDoor
open Go.RowKit
set_option linter.unusedVariables false

end Go.Proofs.YtojbahjebfcmgaaGreatDoor

namespace Go.Proofs.YtojbahjebfcmgaaGreatDoor
open Go.RowKit
set_option linter.unusedVariables false

end Go.Proofs.YtojbahjebfcmgaaGreatDoor

namespace Go.Proofs.YtojbahjebfcmgaaGreatDoor
open Go.RowKit
set_option linter.unusedVariables false

theorem xTakes_none {s : By} (h : ¬ (s = bAdd) ∧ ¬ (s = bSub) ∧ ¬ (s = bMul) ∧ ¬ (s = bEq) ∧ ¬ (s = bLt) ∧ ¬ (s = bAnd) ∧ ¬ (s = bOr) ∧ ¬ (s = bCat) ∧ ¬ (s = bNeg) ∧ ¬ (s = bNot) ∧ ¬ (s = bLen) ∧ ¬ (s = bIf)) : xTakes s = 0 := by
  obtain ⟨h0, h1, h2, h3, h4, h5, h6, h7, h8, h9, h10, h11⟩ := h
  unfold xTakes xTwo xOne
  simp [h0, h1, h2, h3, h4, h5, h6, h7, h8, h9, h10, h11]
set_option maxRecDepth 100000 in
set_option maxHeartbeats 1600000 in
theorem ex_operands (s : By) (w : World) : Calls Tryz.prog 213 #[.string (bstr s)] w fun e w' => e = .returned (.int .i64 (xTakes s : Int)) ∧ w = w' := by
  unfold bstr
  by_cases hAdd : s = bAdd
  · subst hAdd
    unfold bAdd
    rw [show xTakes [97, 100, 100] = 2 from rfl]
    go_enter Tryz.func213, Tryz.ntmps213
    go_wp2
    go_ret
    exact ⟨rfl, rfl⟩
  by_cases hSub : s = bSub
  · subst hSub
    unfold bSub
    rw [show xTakes [115, 117, 98] = 2 from rfl]
    go_enter Tryz.func213, Tryz.ntmps213
    go_wp2
    go_ret
    exact ⟨rfl, rfl⟩
  by_cases hMul : s = bMul
  · subst hMul
    unfold bMul
    rw [show xTakes [109, 117, 108] = 2 from rfl]
    go_enter Tryz.func213, Tryz.ntmps213
    go_wp2
    go_ret
    exact ⟨rfl, rfl⟩
  by_cases hEq : s = bEq
  · subst hEq
    unfold bEq
    rw [show xTakes [101, 113] = 2 from rfl]
    go_enter Tryz.func213, Tryz.ntmps213
    go_wp2
    go_ret
    exact ⟨rfl, rfl⟩
  by_cases hLt : s = bLt
  · subst hLt
    unfold bLt
    rw [show xTakes [108, 116] = 2 from rfl]
    go_enter Tryz.func213, Tryz.ntmps213
    go_wp2
    go_ret
    exact ⟨rfl, rfl⟩
  by_cases hAnd : s = bAnd
  · subst hAnd
    unfold bAnd
    rw [show xTakes [97, 110, 100] = 2 from rfl]
    go_enter Tryz.func213, Tryz.ntmps213
    go_wp2
    go_ret
    exact ⟨rfl, rfl⟩
  by_cases hOr : s = bOr
  · subst hOr
    unfold bOr
    rw [show xTakes [111, 114] = 2 from rfl]
    go_enter Tryz.func213, Tryz.ntmps213
    go_wp2
    go_ret
    exact ⟨rfl, rfl⟩
  by_cases hCat : s = bCat
  · subst hCat
    unfold bCat
    rw [show xTakes [99, 97, 116] = 2 from rfl]
    go_enter Tryz.func213, Tryz.ntmps213
    go_wp2
    go_ret
    exact ⟨rfl, rfl⟩
  by_cases hNeg : s = bNeg
  · subst hNeg
    unfold bNeg
    rw [show xTakes [110, 101, 103] = 1 from rfl]
    go_enter Tryz.func213, Tryz.ntmps213
    go_wp2
    go_ret
    exact ⟨rfl, rfl⟩
  by_cases hNot : s = bNot
  · subst hNot
    unfold bNot
    rw [show xTakes [110, 111, 116] = 1 from rfl]
    go_enter Tryz.func213, Tryz.ntmps213
    go_wp2
    go_ret
    exact ⟨rfl, rfl⟩
  by_cases hLen : s = bLen
  · subst hLen
    unfold bLen
    rw [show xTakes [108, 101, 110] = 1 from rfl]
    go_enter Tryz.func213, Tryz.ntmps213
    go_wp2
    go_ret
    exact ⟨rfl, rfl⟩
  by_cases hIf : s = bIf
  · subst hIf
    unfold bIf
    rw [show xTakes [105, 102] = 3 from rfl]
    go_enter Tryz.func213, Tryz.ntmps213
    go_wp2
    go_ret
    exact ⟨rfl, rfl⟩
  rw [xTakes_none ⟨hAdd, hSub, hMul, hEq, hLt, hAnd, hOr, hCat, hNeg, hNot, hLen, hIf⟩]
  have gAdd : (s == bAdd) = false := beq_eq_false_iff_ne.2 hAdd
  have gSub : (s == bSub) = false := beq_eq_false_iff_ne.2 hSub
  have gMul : (s == bMul) = false := beq_eq_false_iff_ne.2 hMul
  have gEq : (s == bEq) = false := beq_eq_false_iff_ne.2 hEq
  have gLt : (s == bLt) = false := beq_eq_false_iff_ne.2 hLt
  have gAnd : (s == bAnd) = false := beq_eq_false_iff_ne.2 hAnd
  have gOr : (s == bOr) = false := beq_eq_false_iff_ne.2 hOr
  have gCat : (s == bCat) = false := beq_eq_false_iff_ne.2 hCat
  have gNeg : (s == bNeg) = false := beq_eq_false_iff_ne.2 hNeg
  have gNot : (s == bNot) = false := beq_eq_false_iff_ne.2 hNot
  have gLen : (s == bLen) = false := beq_eq_false_iff_ne.2 hLen
  have gIf : (s == bIf) = false := beq_eq_false_iff_ne.2 hIf
  unfold bAdd bSub bMul bEq bLt bAnd bOr bCat bNeg bNot bLen bIf at *
  go_enter Tryz.func213, Tryz.ntmps213
  go_wp2
  go_ret
  exact ⟨rfl, rfl⟩

end Go.Proofs.YtojbahjebfcmgaaGreatDoor

namespace Go.Proofs.YtojbahjebfcmgaaGreatDoor
open Go.RowKit
set_option linter.unusedVariables false

def xForeignP (k : Int) (s : By) (n : Int) (n1 : Nat) : Bool :=
  if k == 1 then !xName s || !(n == 0) || decide (0 < n1)
  else if k == 2 then !s.isEmpty || decide (0 < n1)
  else if k == 3 then !(n == 0) || decide (0 < n1)
  else if k == 4 then xTakes s == 0 || !(n == 0) || !(n1 == xTakes s)
  else true
theorem xForeign_p (m : M) : xForeign m.t = xForeignP m.kind m.s m.n m.kids.length := by
  unfold xForeign xForeignP
  rw [M.t_kind, M.t_s, M.t_n, M.t_kids, List.length_map]
  have : (!(m.kids.map M.t).isEmpty) = decide (0 < m.kids.length) := by cases m.kids <;> simp
  rw [this]

set_option maxRecDepth 100000 in
theorem ex_kids (m : M) (w : World) : Calls Tryz.prog 201 #[ev_ m] w fun e w' => e = .returned m.kv ∧ Ev w w' := by
  unfold ev_ M.kv
  go_enter Tryz.func201, Tryz.ntmps201
  go_wp2
  go_ret
  exact ⟨rfl, Ev.alloc _ _⟩

set_option maxRecDepth 100000 in
set_option maxHeartbeats 4000000 in
theorem ex_isForeign (k : Int) (s : By) (n : Int) (A : Option Addr) (n1 cap : Nat) (w : World) (hs : s.length ≤ 1000000) (hn1 : n1 ≤ 1000000) :
    Calls Tryz.prog 203 #[.agg #[.int .i64 k, .string ⟨s.toArray⟩, .int .i64 n, .slice A n1 cap]] w fun e w' => e = .returned (.bool (xForeignP k s n n1)) ∧ Ev w w' := by
  have HNm := fun w1 => row_name (bstr s) w1
  have HO := Lib.hid (fun w1 => ex_operands s w1)
  have hE := Ev.alloc w (.cells #[.int .i64 k, .string ⟨s.toArray⟩, .int .i64 n, .slice A n1 cap] 57)
  have hB := Bx.new 57 #[.int .i64 k, .string ⟨s.toArray⟩, .int .i64 n, .slice A n1 cap] w
  obtain ⟨w0, hw0⟩ : ∃ w0, w.alloc (.cells #[.int .i64 k, .string ⟨s.toArray⟩, .int .i64 n, .slice A n1 cap] 57) = w0 := ⟨_, rfl⟩
  rw [hw0] at hE hB
  obtain ⟨⟨c0, c1, c2, c3⟩, _⟩ := hB.four
  have HB := Lib.hid hB
  have HE := Lib.hid hE
  clear hB hE
  unfold bstr at HNm HO
  by_cases k1 : k = 1
  · subst k1
    unfold xForeignP
    simp only [beq_self_eq_true, if_true]
    rw [show xName s = nameV ⟨s.toArray⟩ from rfl]
    generalize nameV ⟨s.toArray⟩ = y at *
    have HNm := Lib.hid HNm
    cases y with
    | false =>
      go_enter Tryz.func203, Tryz.ntmps203
      go_wp2_with (first | ((with_reducible refine (HNm.out _).mono ?_); rintro e w1 ⟨rfl, hE1⟩; have E1 := HE.out.trans hE1))
      go_ret
      exact ⟨rfl, E1⟩
    | true =>
      by_cases h0 : n = 0
      · subst h0
        by_cases h1 : 0 < n1
        · have i1 : (0 : Int) < (n1 : Int) := by omega
          go_enter Tryz.func203, Tryz.ntmps203
          go_wp2_with (first | ((with_reducible refine (HNm.out _).mono ?_); rintro e w1 ⟨rfl, hE1⟩; have E1 := HE.out.trans hE1; obtain ⟨⟨c0, c1, c2, c3⟩, _⟩ := (HB.out.ev hE1).four))
          go_ret
          exact ⟨by simp [h1], E1⟩
        · have i1 : ¬ ((0 : Int) < (n1 : Int)) := by omega
          go_enter Tryz.func203, Tryz.ntmps203
          go_wp2_with (first | ((with_reducible refine (HNm.out _).mono ?_); rintro e w1 ⟨rfl, hE1⟩; have E1 := HE.out.trans hE1; obtain ⟨⟨c0, c1, c2, c3⟩, _⟩ := (HB.out.ev hE1).four))
          go_ret
          exact ⟨by simp [h1], E1⟩
      · have h0' : (n == 0) = false := beq_eq_false_iff_ne.2 h0
        have h0n : (n != 0) = true := by simp [h0]
        go_enter Tryz.func203, Tryz.ntmps203
        go_wp2_with (first | ((with_reducible refine (HNm.out _).mono ?_); rintro e w1 ⟨rfl, hE1⟩; have E1 := HE.out.trans hE1; obtain ⟨⟨c0, c1, c2, c3⟩, _⟩ := (HB.out.ev hE1).four))
        go_ret
        exact ⟨by simp [h0], E1⟩
  have k1' : (k == 1) = false := beq_eq_false_iff_ne.2 k1
  by_cases k2 : k = 2
  · subst k2
    unfold xForeignP
    simp only [k1', beq_self_eq_true, if_true, Bool.false_eq_true, if_false]
    cases hse : s with
    | nil =>
      rw [hse] at c1 hw0
      by_cases h1 : 0 < n1
      · have i1 : (0 : Int) < (n1 : Int) := by omega
        go_enter Tryz.func203, Tryz.ntmps203
        go_wp2
        go_ret
        exact ⟨by first | rfl | simp [h1], HE.out⟩
      · have i1 : ¬ ((0 : Int) < (n1 : Int)) := by omega
        go_enter Tryz.func203, Tryz.ntmps203
        go_wp2
        go_ret
        exact ⟨by first | rfl | simp [h1], HE.out⟩
    | cons x q =>
      rw [hse] at c1 hw0
      go_enter Tryz.func203, Tryz.ntmps203
      go_wp2
      go_ret
      exact ⟨rfl, HE.out⟩
  have k2' : (k == 2) = false := beq_eq_false_iff_ne.2 k2
  by_cases k3 : k = 3
  · subst k3
    unfold xForeignP
    simp only [k1', k2', beq_self_eq_true, if_true, Bool.false_eq_true, if_false]
    by_cases h0 : n = 0
    · subst h0
      by_cases h1 : 0 < n1
      · have i1 : (0 : Int) < (n1 : Int) := by omega
        go_enter Tryz.func203, Tryz.ntmps203
        go_wp2
        go_ret
        exact ⟨by first | rfl | simp [h1], HE.out⟩
      · have i1 : ¬ ((0 : Int) < (n1 : Int)) := by omega
        go_enter Tryz.func203, Tryz.ntmps203
        go_wp2
        go_ret
        exact ⟨by first | rfl | simp [h1], HE.out⟩
    · have h0' : (n == 0) = false := beq_eq_false_iff_ne.2 h0
      have h0n : (n != 0) = true := by simp [h0]
      go_enter Tryz.func203, Tryz.ntmps203
      go_wp2
      go_ret
      exact ⟨by simp [h0], HE.out⟩
  have k3' : (k == 3) = false := beq_eq_false_iff_ne.2 k3
  by_cases k4 : k = 4
  · subst k4
    unfold xForeignP
    simp only [k1', k2', k3', beq_self_eq_true, if_true, Bool.false_eq_true, if_false]
    obtain ⟨t, ht⟩ : ∃ t, t = xTakes s := ⟨_, rfl⟩
    rw [← ht] at HO ⊢
    clear ht
    cases t with
    | zero =>
        rw [show ((0 : Nat) : Int) = 0 from rfl] at HO
        go_enter Tryz.func203, Tryz.ntmps203
        go_wp2
        go_quiet (first | (go_at_call 213; exact Calls.quiet_of_same ((HO.out _).mono fun _ _ h => ⟨h.1, h.2.symm⟩)))
        all_goals (go_wp2; go_ret; exact ⟨by first | rfl | simp, HE.out.trans (Ev.drewN _ _)⟩)
    | succ t =>
      have e1 : ¬ (((t + 1 : Nat) : Int) = 0) := by omega
      have e1' : (((t : Int) + 1) == 0) = false := by simp; omega
      have e1n : ¬ ((t : Int) + 1 = 0) := by omega
      by_cases h0 : n = 0
      · subst h0
        by_cases h1 : n1 = t + 1
        · subst h1
          go_enter Tryz.func203, Tryz.ntmps203
          go_wp2
          go_quiet (first | (go_at_call 213; exact Calls.quiet_of_same ((HO.out _).mono fun _ _ h => ⟨h.1, h.2.symm⟩)))
          all_goals (go_wp2; go_ret; exact ⟨by first | rfl | simp, HE.out.trans (Ev.drewN _ _)⟩)
        · have h1' : ¬ ((n1 : Int) = (t : Int) + 1) := by omega
          have h1n : ((n1 : Int) != (t : Int) + 1) = true := by simp; omega
          go_enter Tryz.func203, Tryz.ntmps203
          go_wp2
          go_quiet (first | (go_at_call 213; exact Calls.quiet_of_same ((HO.out _).mono fun _ _ h => ⟨h.1, h.2.symm⟩)))
          all_goals (go_wp2; go_ret; exact ⟨by first | rfl | simp [h1], HE.out.trans (Ev.drewN _ _)⟩)
      · have h0' : (n == 0) = false := beq_eq_false_iff_ne.2 h0
        have h0n : (n != 0) = true := by simp [h0]
        go_enter Tryz.func203, Tryz.ntmps203
        go_wp2
        go_quiet (first | (go_at_call 213; exact Calls.quiet_of_same ((HO.out _).mono fun _ _ h => ⟨h.1, h.2.symm⟩)))
        all_goals (go_wp2; go_ret; exact ⟨by first | rfl | simp [h0], HE.out.trans (Ev.drewN _ _)⟩)
  have k4' : (k == 4) = false := beq_eq_false_iff_ne.2 k4
  unfold xForeignP
  simp only [k1', k2', k3', k4', Bool.false_eq_true, if_false]
  go_enter Tryz.func203, Tryz.ntmps203
  go_wp2
  go_ret
  exact ⟨rfl, HE.out⟩
end Go.Proofs.YtojbahjebfcmgaaGreatDoor

namespace Go.Proofs.YtojbahjebfcmgaaGreatDoor
open Go.RowKit
set_option linter.unusedVariables false

mutual
def T.every (p : T → Bool) : T → Bool
  | .mk k s n l q => p (.mk k s n l q) && T.everys p l
def T.everys (p : T → Bool) : List T → Bool
  | [] => true
  | t :: l => t.every p && T.everys p l
end
theorem T.everys_all (p : T → Bool) : ∀ l : List T, T.everys p l = l.all (T.every p)
  | [] => rfl
  | t :: l => by simp [T.everys, T.everys_all p l]
theorem T.every_eq (p : T → Bool) (t : T) : t.every p = (p t && t.kids.all (T.every p)) := by
  cases t
  rw [T.every, T.everys_all]
  rfl
theorem T.size_eq (t : T) : t.size = (t.kids.map T.size).sum + 1 := by
  cases t
  rw [T.size, T.sizes_sum]
  rfl
mutual
theorem xRight_every : ∀ t : T, xRight t = t.every fun x => !xForeign x
  | .mk k s n l q => by rw [xRight, T.every, xRights_every l]
theorem xRights_every : ∀ l : List T, xRights l = T.everys (fun x => !xForeign x) l
  | [] => rfl
  | t :: l => by rw [xRights, T.everys, xRight_every t, xRights_every l]
end
theorem T.size_pos (t : T) : 1 ≤ t.size := by rw [T.size_eq]; omega
theorem sum_len : ∀ l : List T, l.length ≤ (l.map T.size).sum
  | [] => by simp
  | t :: l => by
    have := sum_len l
    have := T.size_pos t
    simp
    omega

theorem sizes_len : ∀ l : List T, l.length ≤ T.sizes l := fun l => by rw [T.sizes_sum]; exact sum_len l
mutual
theorem every_short (N : Nat) : ∀ t : T, t.size ≤ N → t.every (fun x => decide (x.kids.length ≤ N)) = true
  | .mk k s n l q, h => by
    rw [T.size] at h
    have := sizes_len l
    rw [T.every, everys_short N l (by omega)]
    show (decide (l.length ≤ N) && true) = true
    rw [decide_eq_true (by omega)]
    rfl
theorem everys_short (N : Nat) : ∀ l : List T, T.sizes l ≤ N → T.everys (fun x => decide (x.kids.length ≤ N)) l = true
  | [], _ => rfl
  | t :: l, h => by
    rw [T.sizes] at h
    rw [T.everys, every_short N t (by omega), everys_short N l (by omega)]
    rfl
end
/-- The function isForeign as a value. -/
abbrev isForeignV : Value := .func (.func 203) #[] #[]
abbrev kidsV : Value := .func (.func 201) #[] #[]
/-- Sizes that a machine can hold. -/
def Fair (m : M) : Prop := m.s.length ≤ 1000000 ∧ m.kids.length ≤ 1000000
def foreignM (m : M) : Bool := xForeign m.t
theorem foreign_at (m : M) (hF : Fair m) (w : World) : Calls Tryz.prog 203 #[ev_ m] w fun e w' => e = .returned (.bool (foreignM m)) ∧ Ev w w' := by
  unfold foreignM
  rw [xForeign_p]
  exact ex_isForeign m.kind m.s m.n m.A m.kids.length m.cap w hF.1 hF.2

set_option maxRecDepth 100000 in
set_option maxHeartbeats 1600000 in
theorem ex_indexFunc {A : Option Addr} {n cap : Nat} {Z : List M} (w : World) (h : Es w A n cap Z) (hf : ∀ z ∈ Z, Fair z) :
    Calls Tryz.prog 218 #[.slice A n cap, isForeignV] w fun e w' => (∃ i : Int, e = .returned (.int .i64 i) ∧ (decide (0 ≤ i) = Z.any foreignM)) ∧ Ev w w' := by
  have hn := h.le
  have hm := h.max
  have HN := Lib.hid h.len
  have HF0 := Lib.hid hf
  clear hf
  go_enter Tryz.func218, Tryz.ntmps218
  go_wp2
  go_loopw [8] (fun i wr => ∃ k : Nat, k ≤ n ∧ i = .int .i64 (k : Int) ∧ Hid ((Z.take k).any foreignM = false) ∧ Ev w wr) (fun i _ => n - (intOf i).toNat)
  case atStart => exact ⟨0, Nat.zero_le _, rfl, Lib.hid rfl, Ev.refl _⟩
  case round =>
    obtain ⟨k, hk, rfl, HF, hE⟩ := hrel
    by_cases hlt : k < n
    · obtain ⟨z, hx⟩ := h.at hlt
      obtain ⟨b, off, rfl, hb, c0, c1, c2, c3⟩ := Es.cell (h.ev hE) hx
      have HI := fun w1 => foreign_at z (HF0.out z (List.mem_of_getElem? hx)) w1
      have HX := Lib.hid hx
      clear hx
      generalize hz : foreignM z = y at HI
      have HZ := Lib.hid hz
      clear hz
      unfold ev_ M.kv at HI
      unfold M.kv at c3
      have HI := Lib.hid HI
      have i1 : (0 : Int) ≤ (k : Int) := by omega
      have i2 : (k : Int) < (n : Int) := by omega
      cases y
      · go_wp2_with (first | ((with_reducible refine (HI.out _).mono ?_); rintro e w1 ⟨rfl, hE1⟩))
        go_roundw
        case rel =>
          refine ⟨k + 1, by omega, by go_num, Lib.hid ?_, hE.trans hE1⟩
          obtain ⟨hk2, e⟩ := List.getElem?_eq_some_iff.1 HX.out
          rw [List.take_succ_eq_append_getElem hk2, List.any_append, HF.out, e]
          simp [HZ.out]
        case measure => simp [intOf]; omega
      · go_wp2_with (first | ((with_reducible refine (HI.out _).mono ?_); rintro e w1 ⟨rfl, hE1⟩))
        go_ret
        refine ⟨⟨k, rfl, ?_⟩, hE.trans hE1⟩
        rw [decide_eq_true i1]
        exact (List.any_eq_true.2 ⟨_, List.mem_of_getElem? HX.out, HZ.out⟩).symm
    · obtain rfl : k = n := by omega
      go_wp2
      go_ret
      refine ⟨⟨-1, rfl, ?_⟩, hE⟩
      have := HF.out
      rw [List.take_of_length_le (by rw [HN.out]; exact Nat.le_refl _)] at this
      rw [this]; rfl

set_option maxRecDepth 100000 in
set_option maxHeartbeats 1600000 in
theorem ex_containsFunc {A : Option Addr} {n cap : Nat} {Z : List M} (w : World) (h : Es w A n cap Z) (hf : ∀ z ∈ Z, Fair z) :
    Calls Tryz.prog 202 #[.slice A n cap, isForeignV] w fun e w' => e = .returned (.bool (Z.any foreignM)) ∧ Ev w w' := by
  have HI := Lib.hid (ex_indexFunc w h hf)
  generalize Z.any foreignM = y at *
  clear hf
  go_enter Tryz.func202, Tryz.ntmps202
  go_wp2_with (first | ((with_reducible refine HI.out.mono ?_); rintro e w1 ⟨⟨i, rfl, rfl⟩, hE1⟩))
  go_ret
  exact ⟨rfl, hE1⟩

theorem Tryz.infoExpr : (Tryz.prog.info? 57).map (fun i => (i.zero, i.size, i.bytes)) = some (some (.agg #[.int .i64 0, .string ⟨#[]⟩, .int .i64 0, .slice none 0 0]), 4, 56) := by kernel_rfl
/-- How far the parts are gathered: i of them have been looked at. -/
structure PtSt (m : M) (b0 : Nat) (w0 : World) (v : Value) (L : List M) (i : Nat) (w : World) : Prop where
  own : Ow 57 4 ec w0.heap.size w v L
  ev : Ev w0 w
  lies : ∀ x ∈ L, Lx b0 [] w0 x
  le : i ≤ L.length
  size : i + ((L.drop i).map fun x => x.t.size).sum = m.t.size
  all : ∀ p : T → Bool, (((L.take i).all fun x => p x.t) && ((L.drop i).all fun x => x.t.every p)) = m.t.every p
theorem PtSt.init {m : M} {b0 : Nat} {w : World} {v : Value} {w1 : World} (hL : Lx b0 [] w m) (hE : Ev w w1) (ho : Ow 57 4 ec w.heap.size w1 v [m]) : PtSt m b0 w v [m] 0 w1 :=
  ⟨ho, hE, fun x hx => by simp at hx; subst hx; exact hL, by simp, by simp, fun p => by simp⟩
theorem PtSt.short {m : M} {b0 : Nat} {w0 w : World} {v : Value} {L : List M} {i : Nat} (h : PtSt m b0 w0 v L i w) : L.length ≤ m.t.size := by
  have h1 := sum_len ((L.drop i).map M.t)
  rw [List.length_map, List.length_drop, List.map_map] at h1
  have h2 := h.size
  have h3 := h.le
  have : (T.size ∘ M.t) = (fun x : M => x.t.size) := rfl
  rw [this] at h1
  omega
theorem PtSt.next {m : M} {b0 : Nat} {w0 w w' : World} {v v' : Value} {L : List M} {i : Nat} {x : M} (h : PtSt m b0 w0 v L i w) (hx : L[i]? = some x) (ho : Ow 57 4 ec w0.heap.size w' v' (L ++ x.kids)) (hE : Ev w0 w') : PtSt m b0 w0 v' (L ++ x.kids) (i + 1) w' := by
  obtain ⟨hi, hxe⟩ := List.getElem?_eq_some_iff.1 hx
  have hd : L.drop i = x :: L.drop (i + 1) := by rw [List.drop_eq_getElem_cons hi, hxe]
  have hd2 : (L ++ x.kids).drop (i + 1) = L.drop (i + 1) ++ x.kids := by rw [List.drop_append_of_le_length hi]
  have ht2 : (L ++ x.kids).take (i + 1) = L.take i ++ [x] := by rw [List.take_append_of_le_length hi, List.take_succ_eq_append_getElem hi, hxe]
  refine ⟨ho, hE, fun y hy => ?_, by rw [List.length_append]; omega, ?_, fun p => ?_⟩
  · rcases List.mem_append.1 hy with h1 | h1
    · exact h.lies y h1
    · exact (h.lies x (List.mem_of_getElem? hx)).kid y h1
  · have h1 := h.size
    rw [hd] at h1
    rw [hd2]
    have h2 := T.size_eq x.t
    rw [M.t_kids, List.map_map] at h2
    have : (T.size ∘ M.t) = (fun x : M => x.t.size) := rfl
    rw [this] at h2
    simp only [List.map_append, List.sum_append, List.map_cons, List.sum_cons] at h1 ⊢
    omega
  · have h1 := h.all p
    rw [hd] at h1
    rw [hd2, ht2, ← h1]
    simp only [List.all_append, List.all_cons, List.all_nil, Bool.and_true]
    rw [T.every_eq p x.t, M.t_kids, List.all_map]
    have : (T.every p ∘ M.t) = (fun x : M => x.t.every p) := rfl
    rw [this]
    cases (L.take i).all (fun x => p x.t) <;> cases p x.t <;> cases x.kids.all (fun x => x.t.every p) <;> cases (L.drop (i + 1)).all (fun x => x.t.every p) <;> rfl

set_option maxRecDepth 100000 in
set_option maxHeartbeats 1600000 in
theorem ex_parts (m : M) (b0 : Nat) (w : World) (h : Lx b0 [] w m) (hsz : m.t.size ≤ 16000) :
    Calls Tryz.prog 200 #[ev_ m, kidsV] w fun e w' => ∃ (A : Option Addr) (n cap : Nat) (L : List M), e = .returned (.tuple #[.slice A n cap, .bool true]) ∧ Es w' A n cap L ∧
      (∀ x ∈ L, Lx b0 [] w x) ∧ (∀ p : T → Bool, (L.all fun x => p x.t) = m.t.every p) ∧ n ≤ 16000 ∧ Ev w w' := by
  have hE0 := (Ev.alloc w (.cells #[.int .i64 m.kind, .string ⟨m.s.toArray⟩, .int .i64 m.n, m.kv] 57)).trans (Ev.alloc _ (.cells #[.int .i64 m.kind, .string ⟨m.s.toArray⟩, .int .i64 m.n, m.kv] 57))
  have hP := PtSt.init (v := .slice (some ⟨w.heap.size + 1, 0, none⟩) 1 1) h hE0 (by
    have := Ow.made (et := 57) (base := w.heap.size) encE (w.alloc (.cells #[.int .i64 m.kind, .string ⟨m.s.toArray⟩, .int .i64 m.n, m.kv] 57)) [m] #[.int .i64 m.kind, .string ⟨m.s.toArray⟩, .int .i64 m.n, m.kv] rfl (by simp) (by simp)
    simpa using this)
  have HP := Lib.hid hP
  have HK := Lib.hid (fun x w1 => ex_kids x w1)
  clear hP hE0
  unfold ev_
  unfold M.kv at *
  go_enter Tryz.func200, Tryz.ntmps200
  go_wp2
  go_loopw [6, 7] (fun av iv wr => ∃ (A : Option Addr) (n cap i : Nat) (L : List M), av = .slice A n cap ∧ iv = .int .i64 (i : Int) ∧ n = L.length ∧ Hid (PtSt m b0 w (.slice A n cap) L i wr)) (fun _ iv _ => m.t.size - (intOf iv).toNat)
  case atStart => exact ⟨_, 1, 1, 0, [m], rfl, rfl, rfl, HP⟩
  case round =>
    obtain ⟨A, n, cap, i, L, rfl, rfl, hn, HS⟩ := hrel
    have hns := HS.out.short
    rw [← hn] at hns
    have HNL := Lib.hid hn
    clear hn
    obtain ⟨_, cap', hvv, hSl, hA⟩ := HS.out.own.form encE
    injection hvv with h1 h2 h3
    subst h1
    subst h3
    clear h2
    rw [← HNL.out] at hSl
    have hnc := hSl.le
    have hcm := hSl.max
    by_cases hi : i < n
    · obtain ⟨x, hx⟩ := hSl.at hi
      obtain ⟨b, off, rfl, hb, c0, c1, c2, c3⟩ := Es.cell hSl hx
      have HX := Lib.hid hx
      have hLx := HS.out.lies x (List.mem_of_getElem? hx)
      have hEs := hLx.es
      have hks : x.kids.length + n ≤ m.t.size := by
        have h4 := HS.out.size
        have hd : L.drop i = x :: L.drop (i + 1) := by
          obtain ⟨hi', e⟩ := List.getElem?_eq_some_iff.1 hx
          rw [List.drop_eq_getElem_cons hi', e]
        rw [hd] at h4
        have h5 := T.size_eq x.t
        rw [M.t_kids, List.map_map] at h5
        have h6 := sum_len (x.kids.map M.t)
        rw [List.length_map, List.map_map] at h6
        have h7 := sum_len ((L.drop (i + 1)).map M.t)
        rw [List.length_map, List.map_map, List.length_drop, ← HNL.out] at h7
        have : (T.size ∘ M.t) = (fun x : M => x.t.size) := rfl
        rw [this] at h5 h6 h7
        simp only [List.map_cons, List.sum_cons] at h4
        omega
      have HEs := Lib.hid hEs
      have HKx := HK.out x
      unfold ev_ M.kv at HKx
      unfold M.kv at c3
      have HKx := Lib.hid HKx
      obtain ⟨kn, hkn⟩ : ∃ kn, kn = x.kids.length := ⟨_, rfl⟩
      rw [← hkn] at HKx HEs c3 hks
      have HKN := Lib.hid hkn
      have i1 : (0 : Int) ≤ (i : Int) := by omega
      have i2 : (i : Int) < (n : Int) := by omega
      have i3 : ¬ ((16384 : Int) - (n : Int) < (kn : Int)) := by omega
      have hnc' := hnc
      clear hx hEs hkn hLx hA hSl hnc' hb
      go_wp2_with (first
        | ((with_reducible refine (HKx.out _).mono ?_); rintro e w1 ⟨rfl, hE1⟩)
        | ((show wpList _ _ _ (⟨some 31, _, _, _, _, _⟩ :: _) _ _); refine wpList_append_ow (o := ⟨some 31, _, _, _, _, _⟩) rfl 22 (.tmp 29) (.tmp 30) rfl encE Tryz.underlying22 Tryz.infoExpr rfl rfl (HS.out.own.ev hE1) x.A kn x.cap x.kids rfl (HEs.out.ev (HS.out.ev.trans hE1)) (by rw [← HKN.out, ← HNL.out]; omega) (by rw [← HKN.out, ← HNL.out]; omega) (HS.out.ev.trans hE1).size ?_; intro v2 w2 hA2; have E2 := ((But.of_ev (HS.out.ev.trans hE1)).then hA2.2.1).ev (fun k hk => (HS.out.own.lt (mem_foot.1 hk)).1); have S2 := HS.out.next HX.out hA2.1 E2; obtain ⟨A2, cap2, rfl, _, _⟩ := hA2.1.form encE; generalize hnn : (L ++ x.kids).length = nn at S2 ⊢; have HNN2 := Lib.hid hnn.symm; clear hnn))
      go_roundw
      case rel => exact ⟨A2, nn, cap2, i + 1, _, rfl, by go_num, HNN2.out, Lib.hid S2⟩
      case measure => simp [intOf]; omega
    · have hin : i = L.length := by have := HS.out.le; have := HNL.out; omega
      have i2 : ¬ ((i : Int) < (n : Int)) := by omega
      have HIN := Lib.hid hin
      clear hin
      go_wp2
      go_ret2
      refine ⟨_, _, _, rfl, L, hSl, HS.out.lies, fun p => ?_, by omega, HS.out.ev⟩
      have := HS.out.all p
      rw [HIN.out, List.take_length, List.drop_length] at this
      simpa using this

end Go.Proofs.YtojbahjebfcmgaaGreatDoor

namespace Go.Proofs.YtojbahjebfcmgaaGreatDoor
open Go.RowKit
set_option linter.unusedVariables false

set_option maxRecDepth 100000 in
set_option maxHeartbeats 1600000 in
theorem ex_isRight (m : M) (b0 : Nat) (w : World) (h : Lx b0 [] w m) (hsz : m.t.size ≤ 16000) (hf : m.t.every (fun t => decide (t.s.length ≤ 1000000)) = true) :
    Calls Tryz.prog 169 #[ev_ m] w fun e w' => e = .returned (.bool (xRight m.t)) ∧ Ev w w' := by
  have HP := fun w1 (hE : Ev w w1) => ex_parts m b0 w1 (h.ev hE) hsz
  unfold ev_ at HP ⊢
  have HP := Lib.hid HP
  have HF := Lib.hid hf
  have HR := Lib.hid (xRight_every m.t)
  have hE0 := Ev.alloc w (.cells #[.int .i64 m.kind, .string ⟨m.s.toArray⟩, .int .i64 m.n, m.kv] 57)
  have HE := Lib.hid hE0
  obtain ⟨R, hR⟩ : ∃ R, R = xRight m.t := ⟨_, rfl⟩
  rw [← hR] at HR ⊢
  unfold M.kv at *
  clear hf hR hE0
  go_enter Tryz.func169, Tryz.ntmps169
  go_wp2_with (first
    | ((with_reducible refine (HP.out _ HE.out).mono ?_); rintro e w1 ⟨A, n, cap, L, rfl, hL, hLs, hall, hn, hE1⟩; have hfair : ∀ z ∈ L, Fair z := (by
        intro z hz
        have h1 := hall (fun t => decide (t.s.length ≤ 1000000))
        rw [HF.out] at h1
        have h2 := List.all_eq_true.1 h1 z hz
        simp only [decide_eq_true_iff, M.t_s] at h2
        refine ⟨h2, ?_⟩
        have h3 := hall (fun t => decide (t.kids.length ≤ 1000000))
        rw [every_short 1000000 m.t (by omega)] at h3
        have h4 := List.all_eq_true.1 h3 z hz
        simp only [decide_eq_true_iff, M.t_kids, List.length_map] at h4
        exact h4); have HC := Lib.hid (ex_containsFunc w1 hL hfair); have HX : Hid (R = !L.any foreignM) := Lib.hid (by
        rw [HR.out, ← hall]
        rw [List.all_eq_not_any_not]
        simp; rfl); generalize L.any foreignM = y at *)
    | ((with_reducible refine HC.out.mono ?_); rintro e w2 ⟨rfl, hE2⟩))
  go_ret
  exact ⟨by rw [HX.out]; cases y <;> rfl, (HE.out.trans hE1).trans hE2⟩
end Go.Proofs.YtojbahjebfcmgaaGreatDoor

namespace Go.Proofs.YtojbahjebfcmgaaGreatDoor
open Go.RowKit
set_option linter.unusedVariables false

def ic (n : Int) : List Value := [.int .i64 n]
abbrev Ks := Sl 1 ic
theorem Ks.cell {w : World} {A : Option Addr} {n cap : Nat} {l : List Int} (h : Ks w A n cap l) {i : Nat} {x : Int} (hx : l[i]? = some x) : ∃ b off, A = some ⟨b, off, none⟩ ∧ b < w.heap.size ∧ w.cell? ⟨b, off + i, none⟩ = some (.int .i64 x) := by
  have hi := (List.getElem?_eq_some_iff.1 hx).1
  have hl := h.len
  obtain ⟨b, off, e, hlt, hc⟩ := h.rd (by omega)
  have := hc i x hx 0 _ rfl
  rw [Nat.mul_one, Nat.add_zero] at this
  exact ⟨b, off, e, hlt, this⟩

end Go.Proofs.YtojbahjebfcmgaaGreatDoor

namespace Go.Proofs.YtojbahjebfcmgaaGreatDoor
open Go.RowKit
set_option linter.unusedVariables false

theorem xRight_p {m : M} (h : xRight m.t = true) : xForeignP m.kind m.s m.n m.kids.length = false ∧ ∀ x ∈ m.kids, xRight x.t = true := by
  rw [xRight_every, T.every_eq] at h
  simp only [Bool.and_eq_true, Bool.not_eq_true'] at h
  refine ⟨by rw [← xForeign_p]; exact h.1, fun x hx => ?_⟩
  rw [xRight_every]
  exact List.all_eq_true.1 h.2 x.t (by rw [M.t_kids]; exact List.mem_map.2 ⟨x, hx, rfl⟩)
theorem xright_kind {k : Int} {s : By} {n : Int} {n1 : Nat} (h : xForeignP k s n n1 = false) : k = 1 ∨ k = 2 ∨ k = 3 ∨ (k = 4 ∧ n1 = xTakes s ∧ xTakes s ≠ 0) := by
  unfold xForeignP at h
  by_cases h1 : k = 1
  · exact .inl h1
  by_cases h2 : k = 2
  · exact .inr (.inl h2)
  by_cases h3 : k = 3
  · exact .inr (.inr (.inl h3))
  by_cases h4 : k = 4
  · subst h4
    simp at h
    exact .inr (.inr (.inr ⟨rfl, h.2, h.1.1⟩))
  · simp [h1, h2, h3, h4] at h
end Go.Proofs.YtojbahjebfcmgaaGreatDoor

namespace Go.Proofs.YtojbahjebfcmgaaGreatDoor
open Go.RowKit
set_option linter.unusedVariables false

def fairB (t : T) : Bool := decide (i64R t.n) && decide (t.s.length ≤ 100000)
end Go.Proofs.YtojbahjebfcmgaaGreatDoor

namespace Go.Proofs.YtojbahjebfcmgaaGreatDoor
open Go.RowKit
set_option linter.unusedVariables false

theorem takes_12 {s : By} (h : xTakes s ≠ 0) (hi : (s == bIf) = false) : (xTwo s || xOne s) = true ∧ (xTakes s = 1 ∨ xTakes s = 2) := by
  unfold xTakes at *
  cases h2 : xTwo s
  · cases h1 : xOne s
    · rw [h2, h1, hi] at h
      exact absurd rfl h
    · exact ⟨rfl, .inl rfl⟩
  · exact ⟨rfl, .inr rfl⟩
end Go.Proofs.YtojbahjebfcmgaaGreatDoor

namespace Go.Proofs.YtojbahjebfcmgaaGreatDoor
open Go.RowKit
set_option linter.unusedVariables false

end Go.Proofs.YtojbahjebfcmgaaGreatDoor
