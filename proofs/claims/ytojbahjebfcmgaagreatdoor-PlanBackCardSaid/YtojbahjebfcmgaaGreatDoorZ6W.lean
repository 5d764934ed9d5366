/-
  Texts that belong together: An argument of type Value, opened and shut again; the order and the sameness of values. Words for memory: a slice of structs (k cells an element) that reads as a list, and what keeps it; rows of Values and lists of columns. Chapter 7 in plain words: tokens, trees, what is open, what is read. Package sexp: the sorts of bytes, and how many at the beginning are of one sort. The order of values, and what is put and got: plain facts. Rows as lists of Values: what is valid, the order, what is written: plain facts. Own rows of Values (what a call appends to), put and got: plain facts and the law of append. The contracts of package row. The document's own Right and Less (chapter 4). The contracts of row.Put, count and Get. The document's own Put and Get (chapter 5). The document's own Get (chapter 5).
-/
import Derived.Test.YtojbahjebfcmgaaGreatDoorRows
import Derived.Lib.SmallJoins
import Derived.ProofKit
import Derived.OpenShut
import Derived.Test.YtojbahjebfcmgaaGreatDoorZ5W
import Derived.BigQuiet
import Derived.Deep.QuietTactic
import Derived.Test.YtojbahjebfcmgaaGreatDoorZ0W
import Derived.Test.YtojbahjebfcmgaaGreatDoorZ3W
import Derived.WalkMore
import Derived.Maps.AppendAt
namespace Go.Proofs.YtojbahjebfcmgaaGreatDoor
open Go.RowKit Go.WideShapes Go.ChangeShapes
set_option linter.unusedVariables false

section
variable {H : Type} {enc : TypeId × Value → H} {w : World} {base : Nat} {sp : Nat → Bool} {held : Bool}
end

theorem toList_inj {s t : ByteArray} (h : s.toList = t.toList) : s = t := by
  obtain ⟨⟨x⟩⟩ := s
  obtain ⟨⟨y⟩⟩ := t
  simpa using h
end Go.Proofs.YtojbahjebfcmgaaGreatDoor

namespace Go.Proofs.YtojbahjebfcmgaaGreatDoor
open Go.RowKit
set_option linter.unusedVariables false

/-- The slice (A, n, cap) holds the elements l, each of k cells as enc tells. -/
structure Sl {α : Type} (k : Nat) (enc : α → List Value) (w : World) (A : Option Addr) (n cap : Nat) (l : List α) : Prop where
  len : l.length = n
  le : n ≤ cap
  max : cap ≤ 9223372036854775807
  nil : A = none → n = 0 ∧ cap = 0
  rd : 0 < n → ∃ b off, A = some ⟨b, off, none⟩ ∧ b < w.heap.size ∧ ∀ i x, l[i]? = some x → ∀ j u, (enc x)[j]? = some u → w.cell? ⟨b, off + i * k + j, none⟩ = some u

section
variable {α : Type} {k : Nat} {enc : α → List Value} {w w' : World} {A : Option Addr} {n cap : Nat} {l : List α}
theorem Sl.below (h : Sl k enc w A n cap l) (hb : Below w.heap.size w w') : Sl k enc w' A n cap l :=
  ⟨h.len, h.le, h.max, h.nil, fun hn => by
    obtain ⟨b, off, e, hlt, hc⟩ := h.rd hn
    exact ⟨b, off, e, Nat.lt_of_lt_of_le hlt hb.size, fun i x hx j u hu => (hb.cell (p := ⟨b, off + i * k + j, none⟩) hlt).trans (hc i x hx j u hu)⟩⟩
theorem Sl.ev (h : Sl k enc w A n cap l) (hb : Ev w w') : Sl k enc w' A n cap l := h.below hb
theorem Sl.but {K : List Nat} (h : Sl k enc w A n cap l) (hb : But K w w') (hA : ∀ ad, A = some ad → ad.block ∉ K) : Sl k enc w' A n cap l :=
  ⟨h.len, h.le, h.max, h.nil, fun hn => by
    obtain ⟨b, off, e, hlt, hc⟩ := h.rd hn
    refine ⟨b, off, e, Nat.lt_of_lt_of_le hlt hb.size, fun i x hx j u hu => ?_⟩
    rw [World.cell?_of_block (w := w) (hb.block b hlt (hA _ e))]
    exact hc i x hx j u hu⟩
theorem Sl.nil_ (w : World) : Sl k enc w none 0 0 ([] : List α) := ⟨rfl, Nat.le_refl _, by omega, fun _ => ⟨rfl, rfl⟩, fun h => absurd h (by omega)⟩
/-- 'b[:m]'. -/
theorem Sl.to (h : Sl k enc w A n cap l) (m : Nat) (hm : m ≤ n) : Sl k enc w A m cap (l.take m) :=
  ⟨by rw [List.length_take, h.len]; omega, Nat.le_trans hm h.le, h.max, fun e => by have := h.nil e; omega, fun h0 => by
    obtain ⟨b, off, e, hlt, hc⟩ := h.rd (by omega)
    refine ⟨b, off, e, hlt, fun i x hx j u hu => hc i x ?_ j u hu⟩
    rw [List.getElem?_take] at hx
    split at hx
    · exact hx
    · cases hx⟩
theorem Sl.at (h : Sl k enc w A n cap l) {i : Nat} (hi : i < n) : ∃ x, l[i]? = some x := ⟨_, List.getElem?_eq_getElem (by rw [h.len]; exact hi)⟩
end

/-- A Value; a column. -/
abbrev V := Int × Int × ByteArray
abbrev C := ByteArray × Int
abbrev V.v (x : V) : Value := vv x.1 x.2.1 x.2.2
def vcells (x : V) : List Value := [.int .i64 x.1, .int .i64 x.2.1, .string x.2.2]
def ccells (x : C) : List Value := [.string x.1, .int .i64 x.2]
/-- The slice holds the Values l; the columns l. -/
abbrev Vs := Sl 3 vcells
abbrev Cs := Sl 2 ccells

end Go.Proofs.YtojbahjebfcmgaaGreatDoor

namespace Go.Proofs.YtojbahjebfcmgaaGreatDoor
open Go.RowKit
set_option linter.unusedVariables false

abbrev By := List UInt8
/-- A tree. -/
inductive T where
  | mk (kind : Int) (s : By) (n : Int) (kids : List T) (pos : Nat) : T
def T.kind : T → Int
  | .mk k _ _ _ _ => k
def T.s : T → By
  | .mk _ s _ _ _ => s
def T.n : T → Int
  | .mk _ _ n _ _ => n
def T.kids : T → List T
  | .mk _ _ _ l _ => l
def T.pos : T → Nat
  | .mk _ _ _ _ p => p
def T.add (e t : T) : T := .mk e.kind e.s e.n (e.kids ++ [t]) e.pos
def sxZero : T := .mk 0 [] 0 [] 0
/-- A token, or why there is none. -/
structure Tk where
  kind : Int
  s : By
  n : Int
  size : Nat
  why : Int
  fault : Nat
def Tk.tree (x : Tk) (pos : Nat) : T := .mk x.kind x.s x.n [] pos

def sxRun (p : UInt8 → Bool) : By → Nat
  | [] => 0
  | c :: l => if p c then sxRun p l + 1 else 0
def sxBlank (c : UInt8) : Bool := c.toNat == 32 || c.toNat == 10
def sxLetter (c : UInt8) : Bool := decide (97 ≤ c.toNat) && decide (c.toNat ≤ 122)
def sxDigit (c : UInt8) : Bool := decide (48 ≤ c.toNat) && decide (c.toNat ≤ 57)
def sxPlain (c : UInt8) : Bool := decide (32 ≤ c.toNat) && decide (c.toNat ≤ 126) && !(c.toNat == 34) && !(c.toNat == 92)
def sxWrong (why : Int) (fault : Nat) : Tk := ⟨0, [], 0, 0, why, fault⟩
/-- The opposite of the number with these digits, behind n. -/
def sxBelow : By → Int → Option Int
  | [], n => some n
  | c :: l, n => if n < -((9223372036854775808 - ((c.toNat : Int) - 48)) / 10) then none else sxBelow l (n * 10 - ((c.toNat : Int) - 48))
def sxDigits (l : By) : By := l.take (sxRun sxDigit l)
def sxNum (plus : Bool) (d : By) : Tk :=
  match sxBelow d 0 with
  | none => sxWrong 12 0
  | some n => if d.isEmpty || plus && decide (n = -9223372036854775808) then sxWrong 12 0 else if plus then ⟨3, [], -n, d.length, 0, 0⟩ else ⟨3, [], n, 1 + d.length, 0, 0⟩
def sxNumber : By → Tk
  | [] => sxNum true []
  | c :: q => if c.toNat == 45 then sxNum false (sxDigits q) else sxNum true (sxDigits (c :: q))
def sxHex (c : UInt8) : Option Nat :=
  if 48 ≤ c.toNat ∧ c.toNat ≤ 57 then some (c.toNat - 48) else if 97 ≤ c.toNat ∧ c.toNat ≤ 102 then some (c.toNat - 87) else none
def sxEscaped : By → UInt8 × Int
  | [] => (0, 10)
  | x :: q => match sxHex x with
    | none => (0, 12)
    | some a => match q with
      | [] => (0, 10)
      | y :: _ => match sxHex y with
        | none => (0, 12)
        | some b => (UInt8.ofNat (16 * a + b), 0)
def sxTextGo : By → By → Nat → Tk
  | _, [], i => sxWrong 10 i
  | b, c :: q, i =>
    if sxPlain c then sxTextGo (b ++ [c]) q (i + 1)
    else if c.toNat == 92 then
      match q with
      | [] => sxWrong 10 (i + 1)
      | x :: q1 => match sxHex x with
        | none => sxWrong 12 i
        | some h => match q1 with
          | [] => sxWrong 10 (i + 2)
          | y :: q2 => match sxHex y with
            | none => sxWrong 12 i
            | some k => sxTextGo (b ++ [UInt8.ofNat (16 * h + k)]) q2 (i + 3)
    else if c.toNat == 34 then (if 40 < b.length then sxWrong 3 0 else ⟨4, b, 0, i + 1, 0, 0⟩)
    else sxWrong 12 i
def sxScan : By → Tk
  | [] => sxWrong 12 0
  | c :: q =>
    if c.toNat == 40 then ⟨1, [], 0, 1, 0, 0⟩
    else if c.toNat == 41 then ⟨-1, [], 0, 1, 0, 0⟩
    else if c.toNat == 34 then sxTextGo [] q 1
    else if c.toNat == 45 || sxDigit c then sxNumber (c :: q)
    else if sxLetter c then ⟨2, (c :: q).take (sxRun sxLetter (c :: q)), 0, sxRun sxLetter (c :: q), 0, 0⟩
    else sxWrong 12 0
/-- Has a tree been read? -/
def sxDone : List T → Bool
  | [] => false
  | e :: _ => !e.kids.isEmpty
def sxJudge (os : List T) (x : Tk) : Int × Nat :=
  if !(x.why == 0) && !(sxDone os && decide (0 < x.fault)) then (x.why, x.fault)
  else if x.kind == -1 && os.length == 1 then (12, 0)
  else if !(x.kind == -1) && sxDone os then (11, 0)
  else if x.kind == 1 && decide (12 < os.length) then (14, 0)
  else (0, 0)
def sxPut : List T → T → List T
  | [], _ => []
  | [e], t => [e.add t]
  | e :: e' :: os, t => e :: sxPut (e' :: os) t
def sxTake (os : List T) (t : T) : List T :=
  if t.kind == 1 then os ++ [t]
  else if t.kind == -1 then (match os.getLast? with | none => os | some e => sxPut os.dropLast e)
  else sxPut os t
abbrev Res := T × Int × Nat
def sxWhole (os : List T) (pos : Nat) : Res :=
  match os with
  | [] => (sxZero, 10, pos)
  | e :: _ => match e.kids with
    | [] => (sxZero, 10, pos)
    | t :: _ => (t, 0, 0)
def sxGo : Nat → List T → By → Nat → Res
  | 0, _, _, _ => (sxZero, 12, 0)
  | f + 1, os, r, pos =>
    match r.drop (sxRun sxBlank r) with
    | [] => sxWhole os (pos + sxRun sxBlank r)
    | c :: q =>
      if (sxJudge os (sxScan (c :: q))).1 == 0 then
        sxGo f (sxTake os ((sxScan (c :: q)).tree (pos + sxRun sxBlank r))) ((c :: q).drop (sxScan (c :: q)).size) (pos + sxRun sxBlank r + (sxScan (c :: q)).size)
      else (sxZero, (sxJudge os (sxScan (c :: q))).1, pos + sxRun sxBlank r + (sxJudge os (sxScan (c :: q))).2)
def sxRead (l : By) : Res := if 600 < l.length then (sxZero, 3, 0) else sxGo (l.length + 1) [sxZero] l 0

theorem sxRun_le (p : UInt8 → Bool) : ∀ l : By, sxRun p l ≤ l.length
  | [] => Nat.le_refl _
  | c :: l => by
    unfold sxRun
    have := sxRun_le p l
    split <;> simp <;> omega
theorem sxRun_step (p : UInt8 → Bool) : ∀ (l : By) (k : Nat) (c : UInt8), l[k]? = some c → sxRun p (l.drop k) = if p c then sxRun p (l.drop (k + 1)) + 1 else 0
  | [], k, c, h => by simp at h
  | x :: l, 0, c, h => by
    simp at h
    subst h
    simp [sxRun]
  | x :: l, k + 1, c, h => by
    have := sxRun_step p l k c (by simpa using h)
    simpa using this
theorem sxRun_all (p : UInt8 → Bool) : ∀ l : By, ∀ c ∈ l.take (sxRun p l), p c = true
  | [], c, h => by simp [sxRun] at h
  | x :: l, c, h => by
    unfold sxRun at h
    split at h
    · rename_i hx
      rw [List.take_succ_cons] at h
      rcases List.mem_cons.1 h with rfl | h
      · exact hx
      · exact sxRun_all p l c h
    · simp at h
theorem sxRun_stop (p : UInt8 → Bool) : ∀ (l : By) (c : UInt8), l[sxRun p l]? = some c → p c = false
  | [], c, h => by simp at h
  | x :: l, c, h => by
    unfold sxRun at h
    split at h
    · exact sxRun_stop p l c (by simpa using h)
    · rename_i hx
      simp at h
      subst h
      simpa using hx
theorem sxPut_snoc : ∀ (os : List T) (e t : T), sxPut (os ++ [e]) t = os ++ [e.add t]
  | [], e, t => rfl
  | [a], e, t => rfl
  | a :: b :: os, e, t => by
    have := sxPut_snoc (b :: os) e t
    simp only [List.cons_append] at this ⊢
    unfold sxPut
    rw [this]
theorem sxTextGo_run : ∀ (r b : By) (i : Nat), sxTextGo b r i = sxTextGo (b ++ r.take (sxRun sxPlain r)) (r.drop (sxRun sxPlain r)) (i + sxRun sxPlain r)
  | [], b, i => by simp [sxRun]
  | c :: q, b, i => by
    by_cases h : sxPlain c = true
    · have e : sxRun sxPlain (c :: q) = sxRun sxPlain q + 1 := by simp [sxRun, h]
      rw [e, List.take_succ_cons, List.drop_succ_cons]
      conv => lhs; unfold sxTextGo
      simp only [h, if_true]
      rw [sxTextGo_run q (b ++ [c]) (i + 1)]
      rw [List.append_assoc, List.singleton_append, show i + 1 + sxRun sxPlain q = i + (sxRun sxPlain q + 1) by omega]
    · have e : sxRun sxPlain (c :: q) = 0 := by simp [sxRun, h]
      rw [e]
      simp
end Go.Proofs.YtojbahjebfcmgaaGreatDoor

namespace Go.Proofs.YtojbahjebfcmgaaGreatDoor
open Go.RowKit
set_option linter.unusedVariables false

theorem sx_getD_at (s : ByteArray) (k : Nat) (h : k < s.size) : s[k] = s.data.toList.getD k 0 := by
  obtain ⟨a⟩ := s
  have h2 : k < a.size := h
  show a[k] = _
  simp [List.getD, h2]
theorem sx_at (s : ByteArray) (k : Nat) (h : k < s.size) : s.data.toList[k]? = some s[k] := by
  rw [sx_getD_at s k h]
  have h2 : k < s.data.toList.length := by rw [Array.length_toList]; exact h
  simp [List.getD, List.getElem?_eq_getElem h2]

set_option maxRecDepth 100000 in
theorem sx_isBlank (c : UInt8) (w : World) :
    Calls Tryz.prog 46 #[.int .u8 (c.toNat : Int)] w fun e w' => e = .returned (.bool (sxBlank c)) ∧ w = w' := by
  by_cases h1 : (c.toNat : Int) = 32
  · have e : sxBlank c = true := by unfold sxBlank; simp; omega
    rw [e]
    go_enter Tryz.func46, Tryz.ntmps46
    go_wp2
    go_ret
    exact ⟨rfl, rfl⟩
  · have e : sxBlank c = ((c.toNat : Int) == 10) := by unfold sxBlank; rw [Bool.eq_iff_iff]; simp; omega
    have h1' : ((c.toNat : Int) == 32) = false := beq_eq_false_iff_ne.2 h1
    rw [e]
    go_enter Tryz.func46, Tryz.ntmps46
    go_wp2
    go_ret
    exact ⟨rfl, rfl⟩

set_option maxRecDepth 100000 in
theorem sx_isLetter (c : UInt8) (w : World) :
    Calls Tryz.prog 95 #[.int .u8 (c.toNat : Int)] w fun e w' => e = .returned (.bool (sxLetter c)) ∧ w = w' := by
  by_cases h1 : (97 : Int) ≤ (c.toNat : Int)
  · have e : sxLetter c = decide ((c.toNat : Int) ≤ 122) := by unfold sxLetter; rw [Bool.eq_iff_iff]; simp; omega
    rw [e]
    go_enter Tryz.func95, Tryz.ntmps95
    go_wp2
    go_ret
    exact ⟨rfl, rfl⟩
  · have e : sxLetter c = false := by unfold sxLetter; rw [Bool.eq_iff_iff]; simp; omega
    rw [e]
    go_enter Tryz.func95, Tryz.ntmps95
    go_wp2
    go_ret
    exact ⟨rfl, rfl⟩

set_option maxRecDepth 100000 in
theorem sx_isDigit (c : UInt8) (w : World) :
    Calls Tryz.prog 93 #[.int .u8 (c.toNat : Int)] w fun e w' => e = .returned (.bool (sxDigit c)) ∧ w = w' := by
  by_cases h1 : (48 : Int) ≤ (c.toNat : Int)
  · have e : sxDigit c = decide ((c.toNat : Int) ≤ 57) := by unfold sxDigit; rw [Bool.eq_iff_iff]; simp; omega
    rw [e]
    go_enter Tryz.func93, Tryz.ntmps93
    go_wp2
    go_ret
    exact ⟨rfl, rfl⟩
  · have e : sxDigit c = false := by unfold sxDigit; rw [Bool.eq_iff_iff]; simp; omega
    rw [e]
    go_enter Tryz.func93, Tryz.ntmps93
    go_wp2
    go_ret
    exact ⟨rfl, rfl⟩

set_option maxRecDepth 100000 in
theorem sx_isPlain (c : UInt8) (w : World) :
    Calls Tryz.prog 155 #[.int .u8 (c.toNat : Int)] w fun e w' => e = .returned (.bool (sxPlain c)) ∧ w = w' := by
  by_cases h1 : (32 : Int) ≤ (c.toNat : Int)
  · by_cases h2 : (c.toNat : Int) ≤ 126
    · by_cases h3 : (c.toNat : Int) = 34
      · have e : sxPlain c = false := by unfold sxPlain; rw [Bool.eq_iff_iff]; simp; omega
        rw [e]
        go_enter Tryz.func155, Tryz.ntmps155
        go_wp2
        go_ret
        exact ⟨rfl, rfl⟩
      · have e : sxPlain c = ((c.toNat : Int) != 34 && (c.toNat : Int) != 92) := by unfold sxPlain; rw [Bool.eq_iff_iff]; simp; omega
        rw [e]
        go_enter Tryz.func155, Tryz.ntmps155
        go_wp2
        go_ret
        exact ⟨rfl, rfl⟩
    · have e : sxPlain c = false := by unfold sxPlain; rw [Bool.eq_iff_iff]; simp; omega
      rw [e]
      go_enter Tryz.func155, Tryz.ntmps155
      go_wp2
      go_ret
      exact ⟨rfl, rfl⟩
  · have e : sxPlain c = false := by unfold sxPlain; rw [Bool.eq_iff_iff]; simp; omega
    rw [e]
    go_enter Tryz.func155, Tryz.ntmps155
    go_wp2
    go_ret
    exact ⟨rfl, rfl⟩

set_option maxRecDepth 100000 in
set_option maxHeartbeats 800000 in
theorem sx_run_isBlank (s : ByteArray) (w : World) (hs : s.size ≤ 9223372036854775806) :
    Calls Tryz.prog 45 #[.string s, .func (.func 46) #[] #[]] w fun e w' => e = .returned (.int .i64 (sxRun sxBlank s.data.toList : Int)) ∧ w = w' := by
  have hll : s.data.toList.length = s.size := by rw [Array.length_toList]; rfl
  have HL := Lib.hid hll
  clear hll
  have HP := Lib.hid sx_isBlank
  go_enter Tryz.func45, Tryz.ntmps45
  go_wp2
  go_loop [5] (fun i => ∃ k : Nat, k ≤ s.size ∧ i = .int .i64 (k : Int) ∧ Hid (sxRun sxBlank s.data.toList = k + sxRun sxBlank (s.data.toList.drop k))) (fun i => s.size - (intOf i).toNat)
  case atStart => exact ⟨0, Nat.zero_le _, rfl, Lib.hid (by simp)⟩
  case round =>
    obtain ⟨k, hk, rfl, HK⟩ := hrel
    by_cases hlt : k < s.size
    · have HS := Lib.hid (sxRun_step sxBlank s.data.toList k _ (sx_at s k hlt))
      obtain ⟨c, hc⟩ : ∃ c, s[k] = c := ⟨_, rfl⟩
      have hidx : ∀ hh, s[k]'hh = c := fun _ => hc
      rw [hc] at HS
      clear hc
      have HC := HP.out c
      cases hp : sxBlank c
      · rw [hp] at HC HS
        have HC := Lib.hid HC
        clear hp
        go_wp2_with (first | ((with_reducible refine (HC.out _).mono ?_); rintro x w1 ⟨rfl, rfl⟩))
        go_ret
        refine ⟨?_, rfl⟩
        rw [HK.out, HS.out]
        rfl
      · rw [hp] at HC HS
        have HC := Lib.hid HC
        clear hp
        go_wp2_with (first | ((with_reducible refine (HC.out _).mono ?_); rintro x w1 ⟨rfl, rfl⟩))
        go_round
        case rel => exact ⟨k + 1, by omega, by go_num, Lib.hid (by rw [HK.out, HS.out]; simp only [if_true]; omega)⟩
        case measure => simp [intOf]; omega
    · obtain rfl : k = s.size := by omega
      have HZ : Hid (sxRun sxBlank s.data.toList = s.size) := Lib.hid (by rw [HK.out, List.drop_of_length_le (by rw [HL.out]; exact Nat.le_refl _)]; rfl)
      clear HK
      go_wp2
      go_ret
      rw [HZ.out]
      exact ⟨rfl, rfl⟩

set_option maxRecDepth 100000 in
set_option maxHeartbeats 800000 in
theorem sx_run_isLetter (s : ByteArray) (w : World) (hs : s.size ≤ 9223372036854775806) :
    Calls Tryz.prog 45 #[.string s, .func (.func 95) #[] #[]] w fun e w' => e = .returned (.int .i64 (sxRun sxLetter s.data.toList : Int)) ∧ w = w' := by
  have hll : s.data.toList.length = s.size := by rw [Array.length_toList]; rfl
  have HL := Lib.hid hll
  clear hll
  have HP := Lib.hid sx_isLetter
  go_enter Tryz.func45, Tryz.ntmps45
  go_wp2
  go_loop [5] (fun i => ∃ k : Nat, k ≤ s.size ∧ i = .int .i64 (k : Int) ∧ Hid (sxRun sxLetter s.data.toList = k + sxRun sxLetter (s.data.toList.drop k))) (fun i => s.size - (intOf i).toNat)
  case atStart => exact ⟨0, Nat.zero_le _, rfl, Lib.hid (by simp)⟩
  case round =>
    obtain ⟨k, hk, rfl, HK⟩ := hrel
    by_cases hlt : k < s.size
    · have HS := Lib.hid (sxRun_step sxLetter s.data.toList k _ (sx_at s k hlt))
      obtain ⟨c, hc⟩ : ∃ c, s[k] = c := ⟨_, rfl⟩
      have hidx : ∀ hh, s[k]'hh = c := fun _ => hc
      rw [hc] at HS
      clear hc
      have HC := HP.out c
      cases hp : sxLetter c
      · rw [hp] at HC HS
        have HC := Lib.hid HC
        clear hp
        go_wp2_with (first | ((with_reducible refine (HC.out _).mono ?_); rintro x w1 ⟨rfl, rfl⟩))
        go_ret
        refine ⟨?_, rfl⟩
        rw [HK.out, HS.out]
        rfl
      · rw [hp] at HC HS
        have HC := Lib.hid HC
        clear hp
        go_wp2_with (first | ((with_reducible refine (HC.out _).mono ?_); rintro x w1 ⟨rfl, rfl⟩))
        go_round
        case rel => exact ⟨k + 1, by omega, by go_num, Lib.hid (by rw [HK.out, HS.out]; simp only [if_true]; omega)⟩
        case measure => simp [intOf]; omega
    · obtain rfl : k = s.size := by omega
      have HZ : Hid (sxRun sxLetter s.data.toList = s.size) := Lib.hid (by rw [HK.out, List.drop_of_length_le (by rw [HL.out]; exact Nat.le_refl _)]; rfl)
      clear HK
      go_wp2
      go_ret
      rw [HZ.out]
      exact ⟨rfl, rfl⟩

set_option maxRecDepth 100000 in
set_option maxHeartbeats 800000 in
theorem sx_run_isDigit (s : ByteArray) (w : World) (hs : s.size ≤ 9223372036854775806) :
    Calls Tryz.prog 45 #[.string s, .func (.func 93) #[] #[]] w fun e w' => e = .returned (.int .i64 (sxRun sxDigit s.data.toList : Int)) ∧ w = w' := by
  have hll : s.data.toList.length = s.size := by rw [Array.length_toList]; rfl
  have HL := Lib.hid hll
  clear hll
  have HP := Lib.hid sx_isDigit
  go_enter Tryz.func45, Tryz.ntmps45
  go_wp2
  go_loop [5] (fun i => ∃ k : Nat, k ≤ s.size ∧ i = .int .i64 (k : Int) ∧ Hid (sxRun sxDigit s.data.toList = k + sxRun sxDigit (s.data.toList.drop k))) (fun i => s.size - (intOf i).toNat)
  case atStart => exact ⟨0, Nat.zero_le _, rfl, Lib.hid (by simp)⟩
  case round =>
    obtain ⟨k, hk, rfl, HK⟩ := hrel
    by_cases hlt : k < s.size
    · have HS := Lib.hid (sxRun_step sxDigit s.data.toList k _ (sx_at s k hlt))
      obtain ⟨c, hc⟩ : ∃ c, s[k] = c := ⟨_, rfl⟩
      have hidx : ∀ hh, s[k]'hh = c := fun _ => hc
      rw [hc] at HS
      clear hc
      have HC := HP.out c
      cases hp : sxDigit c
      · rw [hp] at HC HS
        have HC := Lib.hid HC
        clear hp
        go_wp2_with (first | ((with_reducible refine (HC.out _).mono ?_); rintro x w1 ⟨rfl, rfl⟩))
        go_ret
        refine ⟨?_, rfl⟩
        rw [HK.out, HS.out]
        rfl
      · rw [hp] at HC HS
        have HC := Lib.hid HC
        clear hp
        go_wp2_with (first | ((with_reducible refine (HC.out _).mono ?_); rintro x w1 ⟨rfl, rfl⟩))
        go_round
        case rel => exact ⟨k + 1, by omega, by go_num, Lib.hid (by rw [HK.out, HS.out]; simp only [if_true]; omega)⟩
        case measure => simp [intOf]; omega
    · obtain rfl : k = s.size := by omega
      have HZ : Hid (sxRun sxDigit s.data.toList = s.size) := Lib.hid (by rw [HK.out, List.drop_of_length_le (by rw [HL.out]; exact Nat.le_refl _)]; rfl)
      clear HK
      go_wp2
      go_ret
      rw [HZ.out]
      exact ⟨rfl, rfl⟩

set_option maxRecDepth 100000 in
set_option maxHeartbeats 800000 in
theorem sx_run_isPlain (s : ByteArray) (w : World) (hs : s.size ≤ 9223372036854775806) :
    Calls Tryz.prog 45 #[.string s, .func (.func 155) #[] #[]] w fun e w' => e = .returned (.int .i64 (sxRun sxPlain s.data.toList : Int)) ∧ w = w' := by
  have hll : s.data.toList.length = s.size := by rw [Array.length_toList]; rfl
  have HL := Lib.hid hll
  clear hll
  have HP := Lib.hid sx_isPlain
  go_enter Tryz.func45, Tryz.ntmps45
  go_wp2
  go_loop [5] (fun i => ∃ k : Nat, k ≤ s.size ∧ i = .int .i64 (k : Int) ∧ Hid (sxRun sxPlain s.data.toList = k + sxRun sxPlain (s.data.toList.drop k))) (fun i => s.size - (intOf i).toNat)
  case atStart => exact ⟨0, Nat.zero_le _, rfl, Lib.hid (by simp)⟩
  case round =>
    obtain ⟨k, hk, rfl, HK⟩ := hrel
    by_cases hlt : k < s.size
    · have HS := Lib.hid (sxRun_step sxPlain s.data.toList k _ (sx_at s k hlt))
      obtain ⟨c, hc⟩ : ∃ c, s[k] = c := ⟨_, rfl⟩
      have hidx : ∀ hh, s[k]'hh = c := fun _ => hc
      rw [hc] at HS
      clear hc
      have HC := HP.out c
      cases hp : sxPlain c
      · rw [hp] at HC HS
        have HC := Lib.hid HC
        clear hp
        go_wp2_with (first | ((with_reducible refine (HC.out _).mono ?_); rintro x w1 ⟨rfl, rfl⟩))
        go_ret
        refine ⟨?_, rfl⟩
        rw [HK.out, HS.out]
        rfl
      · rw [hp] at HC HS
        have HC := Lib.hid HC
        clear hp
        go_wp2_with (first | ((with_reducible refine (HC.out _).mono ?_); rintro x w1 ⟨rfl, rfl⟩))
        go_round
        case rel => exact ⟨k + 1, by omega, by go_num, Lib.hid (by rw [HK.out, HS.out]; simp only [if_true]; omega)⟩
        case measure => simp [intOf]; omega
    · obtain rfl : k = s.size := by omega
      have HZ : Hid (sxRun sxPlain s.data.toList = s.size) := Lib.hid (by rw [HK.out, List.drop_of_length_le (by rw [HL.out]; exact Nat.le_refl _)]; rfl)
      clear HK
      go_wp2
      go_ret
      rw [HZ.out]
      exact ⟨rfl, rfl⟩
end Go.Proofs.YtojbahjebfcmgaaGreatDoor

namespace Go.Proofs.YtojbahjebfcmgaaGreatDoor
open Go.RowKit
set_option linter.unusedVariables false

end Go.Proofs.YtojbahjebfcmgaaGreatDoor

namespace Go.Proofs.YtojbahjebfcmgaaGreatDoor
open Go.RowKit
set_option linter.unusedVariables false

/-- P5.1: names. -/
def words : List (List UInt8) := [[116, 97, 98, 108, 101], [102, 105, 108, 116, 101, 114], [112, 114, 111, 106, 101, 99, 116], [106, 111, 105, 110], [117, 110, 105, 111, 110], [100, 105, 115, 116, 105, 110, 99, 116], [103, 114, 111, 117, 112], [99, 111, 117, 110, 116], [115, 117, 109], [109, 105, 110], [109, 97, 120], [97, 100, 100], [115, 117, 98], [109, 117, 108], [110, 101, 103], [101, 113], [108, 116], [97, 110, 100], [111, 114], [110, 111, 116], [99, 97, 116], [108, 101, 110], [105, 102]]
def letterB (c : UInt8) : Bool := decide (97 ≤ c.toNat) && decide (c.toNat ≤ 122)
def nameV (s : ByteArray) : Bool := (decide (1 ≤ s.size) && decide (s.size ≤ 12)) && (s.data.toList.all letterB && !words.contains s.data.toList)
end Go.Proofs.YtojbahjebfcmgaaGreatDoor

namespace Go.Proofs.YtojbahjebfcmgaaGreatDoor
open Go.RowKit
set_option linter.unusedVariables false

def vlist (l : List V) : List Value := l.flatMap vcells
theorem vlist_length (l : List V) : (vlist l).length = l.length * 3 := by
  induction l with
  | nil => rfl
  | cons x l ih =>
    have : (vlist (x :: l)).length = 3 + (vlist l).length := by simp [vlist, vcells]; omega
    rw [this, ih, List.length_cons]; omega
theorem vlist_get : ∀ (l : List V) (i : Nat) (x : V), l[i]? = some x → ∀ j u, (vcells x)[j]? = some u → (vlist l)[i * 3 + j]? = some u
  | [], _, _, h, _, _, _ => by simp at h
  | y :: l, 0, x, h, j, u, hu => by
    simp at h
    subst h
    have hj : j < 3 := (List.getElem?_eq_some_iff.1 hu).1
    have e : vlist (y :: l) = vcells y ++ vlist l := rfl
    rw [e, Nat.zero_mul, Nat.zero_add, List.getElem?_append_left (by simpa [vcells] using hj)]
    exact hu
  | y :: l, i + 1, x, h, j, u, hu => by
    have e : vlist (y :: l) = vcells y ++ vlist l := rfl
    have hl : (vcells y).length = 3 := rfl
    rw [e, List.getElem?_append_right (by rw [hl]; omega), hl, show (i + 1) * 3 + j - 3 = i * 3 + j by omega]
    exact vlist_get l i x (by simpa using h) j u hu
/-- v is a slice that holds l, in a row of its own or nowhere. -/
def Vrow (w : World) (v : Value) (l : List V) : Prop := w.ownsRow 0 211 3 v l.length (vlist l)
theorem Vrow.nil_ (w : World) : Vrow w (.slice none 0 0) [] := World.ownsRow_nil _ _ _ _
theorem Vrow.of {w : World} {base n : Nat} {v : Value} {l : List V} (h : w.ownsRow base 211 3 v n (vlist l)) : Vrow w v l := by
  have hn : l.length = n := by have := h.1; rw [vlist_length] at this; omega
  subst hn
  refine ⟨h.1, ?_⟩
  rcases h.2 with h2 | ⟨g, cap, cur, hv, hg, r⟩
  · exact .inl h2
  · exact .inr ⟨g, cap, cur, hv, Nat.zero_le _, r⟩
theorem Vrow.but {K : List Nat} {w w' : World} {v : Value} {l : List V} (h : Vrow w v l) (hb : But K w w') (hn : ∀ g, v.ownBlock = some g → g ∉ K) : Vrow w' v l := by
  refine ⟨h.1, ?_⟩
  rcases h.2 with h2 | ⟨g, cap, cur, rfl, hg, hh, r⟩
  · exact .inl h2
  · exact .inr ⟨g, cap, cur, rfl, hg, hb.heap hh (hn g rfl), r⟩
theorem Vrow.ev {w w' : World} {v : Value} {l : List V} (h : Vrow w v l) (hb : Ev w w') : Vrow w' v l := h.but (But.of_ev (K := []) hb) (fun _ _ => by simp)
theorem Vrow.lt {w : World} {v : Value} {l : List V} (h : Vrow w v l) {g : Nat} (hg : v.ownBlock = some g) : g < w.heap.size := (World.ownsRow.lt (show w.ownsRow _ _ _ _ _ _ from h) g hg).2
theorem Vrow.vs {w : World} {v : Value} {l : List V} (h : Vrow w v l) : ∃ A cap, v = .slice A l.length cap ∧ Vs w A l.length cap l ∧ (∀ ad, A = some ad → v.ownBlock = some ad.block) := by
  rcases h.2 with ⟨rfl, hn⟩ | ⟨g, cap, cur, rfl, hb, hg, hnc, hcm, hcs, ht⟩
  · have hl : l = [] := List.eq_nil_of_length_eq_zero hn
    subst hl
    exact ⟨none, 0, rfl, Sl.nil_ w, by simp⟩
  · refine ⟨_, _, rfl, ⟨rfl, hnc, by simpa [maxLen] using hcm, by simp, fun h0 => ⟨g, 0, rfl, (Array.getElem?_eq_some_iff.1 hg).1, fun i x hx j u hu => ?_⟩⟩, by rintro ad ⟨⟩; rfl⟩
    have hi := (List.getElem?_eq_some_iff.1 hx).1
    have hj : j < 3 := (List.getElem?_eq_some_iff.1 hu).1
    have := World.ownsRow.cellAt (show w.ownsRow 0 211 3 (.slice (some ⟨g, 0, none⟩) l.length cap) l.length (vlist l) from h) (i * 3 + j) (by omega)
    rw [Nat.zero_add, this]
    exact vlist_get l i x hx j u hu
theorem Vrow.form {w : World} {v : Value} {l : List V} (h : Vrow w v l) : ∃ A n cap, v = .slice A n cap := by
  obtain ⟨A, cap, rfl, _⟩ := h.vs
  exact ⟨_, _, _, rfl⟩
theorem Vrow.ne_block {w : World} {v : Value} {l : List V} (h : Vrow w v l) {b : Nat} {cs : Array Value} {T : TypeId} {fr : Nat × Nat} (hb : w.heap[b]? = some (.cells cs T fr)) (hT : T ≠ 211) : v.ownBlock ≠ some b := by
  intro e
  rcases h.2 with ⟨rfl, _⟩ | ⟨g, cap, cur, rfl, _, hg, _⟩
  · cases e
  · simp only [Value.ownBlock, Option.some.injEq] at e
    subst e
    rw [hb] at hg
    simp only [Option.some.injEq, Obj.cells.injEq] at hg
    exact hT hg.2.1
end Go.Proofs.YtojbahjebfcmgaaGreatDoor

namespace Go.Proofs.YtojbahjebfcmgaaGreatDoor
open Go.RowKit
set_option linter.unusedVariables false

end Go.Proofs.YtojbahjebfcmgaaGreatDoor

namespace Go.Proofs.YtojbahjebfcmgaaGreatDoor
open Go.RowKit
set_option linter.unusedVariables false

end Go.Proofs.YtojbahjebfcmgaaGreatDoor

namespace Go.Proofs.YtojbahjebfcmgaaGreatDoor
open Go.RowKit
set_option linter.unusedVariables false

end Go.Proofs.YtojbahjebfcmgaaGreatDoor

namespace Go.Proofs.YtojbahjebfcmgaaGreatDoor
open Go.RowKit
set_option linter.unusedVariables false

end Go.Proofs.YtojbahjebfcmgaaGreatDoor

namespace Go.Proofs.YtojbahjebfcmgaaGreatDoor
open Go.RowKit
set_option linter.unusedVariables false

end Go.Proofs.YtojbahjebfcmgaaGreatDoor
