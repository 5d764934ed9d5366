/-
  Chapter 7 in plain words: tokens, trees, what is open, what is read.
-/
import Derived.Test.YtjffppfgappikaaEls
import Derived.Test.YtjffppfgappikaaRegionB
namespace Go.Proofs.Ytjffppfgappikaa
open Go.RowKit
set_option linter.unusedVariables false

abbrev By := List UInt8
/-- A tree. -/
inductive T where
  | mk (kind : Int) (s : By) (n : Int) (kids : List T) (pos : Nat) : T
def T.kind : T → Int
  | .mk k _ _ _ _ => k
def T.s : T → By
  | .mk _ s _ _ _ => s
def T.n : T → Int
  | .mk _ _ n _ _ => n
def T.kids : T → List T
  | .mk _ _ _ l _ => l
def T.pos : T → Nat
  | .mk _ _ _ _ p => p
def T.add (e t : T) : T := .mk e.kind e.s e.n (e.kids ++ [t]) e.pos
def sxZero : T := .mk 0 [] 0 [] 0
/-- A token, or why there is none. -/
structure Tk where
  kind : Int
  s : By
  n : Int
  size : Nat
  why : Int
  fault : Nat
def Tk.tree (x : Tk) (pos : Nat) : T := .mk x.kind x.s x.n [] pos

def sxRun (p : UInt8 → Bool) : By → Nat
  | [] => 0
  | c :: l => if p c then sxRun p l + 1 else 0
def sxBlank (c : UInt8) : Bool := c.toNat == 32 || c.toNat == 10
def sxLetter (c : UInt8) : Bool := decide (97 ≤ c.toNat) && decide (c.toNat ≤ 122)
def sxDigit (c : UInt8) : Bool := decide (48 ≤ c.toNat) && decide (c.toNat ≤ 57)
def sxPlain (c : UInt8) : Bool := decide (32 ≤ c.toNat) && decide (c.toNat ≤ 126) && !(c.toNat == 34) && !(c.toNat == 92)
def sxWrong (why : Int) (fault : Nat) : Tk := ⟨0, [], 0, 0, why, fault⟩
/-- The opposite of the number with these digits, behind n. -/
def sxBelow : By → Int → Option Int
  | [], n => some n
  | c :: l, n => if n < -((9223372036854775808 - ((c.toNat : Int) - 48)) / 10) then none else sxBelow l (n * 10 - ((c.toNat : Int) - 48))
def sxDigits (l : By) : By := l.take (sxRun sxDigit l)
def sxNum (plus : Bool) (d : By) : Tk :=
  match sxBelow d 0 with
  | none => sxWrong 12 0
  | some n => if d.isEmpty || plus && decide (n = -9223372036854775808) then sxWrong 12 0 else if plus then ⟨3, [], -n, d.length, 0, 0⟩ else ⟨3, [], n, 1 + d.length, 0, 0⟩
def sxNumber : By → Tk
  | [] => sxNum true []
  | c :: q => if c.toNat == 45 then sxNum false (sxDigits q) else sxNum true (sxDigits (c :: q))
def sxHex (c : UInt8) : Option Nat :=
  if 48 ≤ c.toNat ∧ c.toNat ≤ 57 then some (c.toNat - 48) else if 97 ≤ c.toNat ∧ c.toNat ≤ 102 then some (c.toNat - 87) else none
def sxEscaped : By → UInt8 × Int
  | [] => (0, 10)
  | x :: q => match sxHex x with
    | none => (0, 12)
    | some a => match q with
      | [] => (0, 10)
      | y :: _ => match sxHex y with
        | none => (0, 12)
        | some b => (UInt8.ofNat (16 * a + b), 0)
def sxTextGo : By → By → Nat → Tk
  | _, [], i => sxWrong 10 i
  | b, c :: q, i =>
    if sxPlain c then sxTextGo (b ++ [c]) q (i + 1)
    else if c.toNat == 92 then
      match q with
      | [] => sxWrong 10 (i + 1)
      | x :: q1 => match sxHex x with
        | none => sxWrong 12 i
        | some h => match q1 with
          | [] => sxWrong 10 (i + 2)
          | y :: q2 => match sxHex y with
            | none => sxWrong 12 i
            | some k => sxTextGo (b ++ [UInt8.ofNat (16 * h + k)]) q2 (i + 3)
    else if c.toNat == 34 then (if 40 < b.length then sxWrong 3 0 else ⟨4, b, 0, i + 1, 0, 0⟩)
    else sxWrong 12 i
def sxScan : By → Tk
  | [] => sxWrong 12 0
  | c :: q =>
    if c.toNat == 40 then ⟨1, [], 0, 1, 0, 0⟩
    else if c.toNat == 41 then ⟨-1, [], 0, 1, 0, 0⟩
    else if c.toNat == 34 then sxTextGo [] q 1
    else if c.toNat == 45 || sxDigit c then sxNumber (c :: q)
    else if sxLetter c then ⟨2, (c :: q).take (sxRun sxLetter (c :: q)), 0, sxRun sxLetter (c :: q), 0, 0⟩
    else sxWrong 12 0
/-- Has a tree been read? -/
def sxDone : List T → Bool
  | [] => false
  | e :: _ => !e.kids.isEmpty
def sxJudge (os : List T) (x : Tk) : Int × Nat :=
  if !(x.why == 0) && !(sxDone os && decide (0 < x.fault)) then (x.why, x.fault)
  else if x.kind == -1 && os.length == 1 then (12, 0)
  else if !(x.kind == -1) && sxDone os then (11, 0)
  else if x.kind == 1 && decide (12 < os.length) then (14, 0)
  else (0, 0)
def sxPut : List T → T → List T
  | [], _ => []
  | [e], t => [e.add t]
  | e :: e' :: os, t => e :: sxPut (e' :: os) t
def sxTake (os : List T) (t : T) : List T :=
  if t.kind == 1 then os ++ [t]
  else if t.kind == -1 then (match os.getLast? with | none => os | some e => sxPut os.dropLast e)
  else sxPut os t
abbrev Res := T × Int × Nat
def sxWhole (os : List T) (pos : Nat) : Res :=
  match os with
  | [] => (sxZero, 10, pos)
  | e :: _ => match e.kids with
    | [] => (sxZero, 10, pos)
    | t :: _ => (t, 0, 0)
def sxGo : Nat → List T → By → Nat → Res
  | 0, _, _, _ => (sxZero, 12, 0)
  | f + 1, os, r, pos =>
    match r.drop (sxRun sxBlank r) with
    | [] => sxWhole os (pos + sxRun sxBlank r)
    | c :: q =>
      if (sxJudge os (sxScan (c :: q))).1 == 0 then
        sxGo f (sxTake os ((sxScan (c :: q)).tree (pos + sxRun sxBlank r))) ((c :: q).drop (sxScan (c :: q)).size) (pos + sxRun sxBlank r + (sxScan (c :: q)).size)
      else (sxZero, (sxJudge os (sxScan (c :: q))).1, pos + sxRun sxBlank r + (sxJudge os (sxScan (c :: q))).2)
def sxRead (l : By) : Res := if 600 < l.length then (sxZero, 3, 0) else sxGo (l.length + 1) [sxZero] l 0

theorem sxRun_le (p : UInt8 → Bool) : ∀ l : By, sxRun p l ≤ l.length
  | [] => Nat.le_refl _
  | c :: l => by
    unfold sxRun
    have := sxRun_le p l
    split <;> simp <;> omega
theorem sxRun_step (p : UInt8 → Bool) : ∀ (l : By) (k : Nat) (c : UInt8), l[k]? = some c → sxRun p (l.drop k) = if p c then sxRun p (l.drop (k + 1)) + 1 else 0
  | [], k, c, h => by simp at h
  | x :: l, 0, c, h => by
    simp at h
    subst h
    simp [sxRun]
  | x :: l, k + 1, c, h => by
    have := sxRun_step p l k c (by simpa using h)
    simpa using this
theorem sxRun_all (p : UInt8 → Bool) : ∀ l : By, ∀ c ∈ l.take (sxRun p l), p c = true
  | [], c, h => by simp [sxRun] at h
  | x :: l, c, h => by
    unfold sxRun at h
    split at h
    · rename_i hx
      rw [List.take_succ_cons] at h
      rcases List.mem_cons.1 h with rfl | h
      · exact hx
      · exact sxRun_all p l c h
    · simp at h
theorem sxRun_stop (p : UInt8 → Bool) : ∀ (l : By) (c : UInt8), l[sxRun p l]? = some c → p c = false
  | [], c, h => by simp at h
  | x :: l, c, h => by
    unfold sxRun at h
    split at h
    · exact sxRun_stop p l c (by simpa using h)
    · rename_i hx
      simp at h
      subst h
      simpa using hx
theorem sxPut_snoc : ∀ (os : List T) (e t : T), sxPut (os ++ [e]) t = os ++ [e.add t]
  | [], e, t => rfl
  | [a], e, t => rfl
  | a :: b :: os, e, t => by
    have := sxPut_snoc (b :: os) e t
    simp only [List.cons_append] at this ⊢
    unfold sxPut
    rw [this]
theorem sxTextGo_run : ∀ (r b : By) (i : Nat), sxTextGo b r i = sxTextGo (b ++ r.take (sxRun sxPlain r)) (r.drop (sxRun sxPlain r)) (i + sxRun sxPlain r)
  | [], b, i => by simp [sxRun]
  | c :: q, b, i => by
    by_cases h : sxPlain c = true
    · have e : sxRun sxPlain (c :: q) = sxRun sxPlain q + 1 := by simp [sxRun, h]
      rw [e, List.take_succ_cons, List.drop_succ_cons]
      conv => lhs; unfold sxTextGo
      simp only [h, if_true]
      rw [sxTextGo_run q (b ++ [c]) (i + 1)]
      rw [List.append_assoc, List.singleton_append, show i + 1 + sxRun sxPlain q = i + (sxRun sxPlain q + 1) by omega]
    · have e : sxRun sxPlain (c :: q) = 0 := by simp [sxRun, h]
      rw [e]
      simp
end Go.Proofs.Ytjffppfgappikaa
