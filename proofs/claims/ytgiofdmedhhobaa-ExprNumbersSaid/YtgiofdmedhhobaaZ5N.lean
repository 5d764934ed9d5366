/-
  Texts that belong together: An argument of type Value, opened and shut again; the order and the sameness of values. Words for memory: a slice of structs (k cells an element) that reads as a list, and what keeps it; rows of Values and lists of columns. Chapter 7 in plain words: tokens, trees, what is open, what is read. Package sexp: the sorts of bytes, and how many at the beginning are of one sort. The order of values, and what is put and got: plain facts. Rows as lists of Values: what is valid, the order, what is written: plain facts. Own rows of Values (what a call appends to), put and got: plain facts and the law of append. The contracts of package row. The document's own Right and Less (chapter 4). The contracts of row.Put, count and Get. The document's own Put and Get (chapter 5). The document's own Get (chapter 5).
-/
import Derived.Test.YtgiofdmedhhobaaRows
import Derived.Lib.SmallJoins
import Derived.ProofKit
import Derived.OpenShut
import Derived.Test.YtgiofdmedhhobaaZ4N
import Derived.BigQuiet
import Derived.Deep.QuietTactic
import Derived.Test.YtgiofdmedhhobaaZ0N
import Derived.Test.YtgiofdmedhhobaaZ2N
import Derived.WalkMore
import Derived.Maps.AppendAt
namespace Go.Proofs.Ytgiofdmedhhobaa
open Go.RowKit Go.WideShapes Go.ChangeShapes
set_option linter.unusedVariables false

section
variable {H : Type} {enc : TypeId × Value → H} {w : World} {base : Nat} {sp : Nat → Bool} {held : Bool}
set_option maxRecDepth 100000 in
theorem open_val {r : Reach} {b0 : Nat} {v : Value} {d : DataW H} {p : List MemPlace} (hv : Value.okWide Try.prog w r b0 25 v) (h : DataW.Trod enc Try.prog w base sp held 25 v d p) :
    ∃ (k n : Int) (s : ByteArray), v = vv k n s ∧ d = .agg [.lit (.int .i64 k), .lit (.int .i64 n), .lit (.string s.data.toList)] ∧ p = [] ∧ (Lit.int .i64 k).wf = true ∧ (Lit.int .i64 n).wf = true ∧ s.size ≤ maxLen := by
  obtain ⟨v0, v1, v2, y0, y1, y2, m, rfl, rfl, rfl, h0, h1, h2⟩ := Joins.open_agg3 Try.underlying25 (by kernel_rfl) (by kernel_rfl) hv h
  obtain ⟨k, e0, rfl, wk⟩ := DataW.trod_int Try.underlying3 h0
  obtain ⟨n, e1, rfl, wn⟩ := DataW.trod_int Try.underlying2 h1
  obtain ⟨s, e2, rfl, ws⟩ := DataW.trod_string Try.underlying9 h2
  simp only [List.cons.injEq, and_true] at e0 e1 e2
  subst e0; subst e1; subst e2
  exact ⟨k, n, s, rfl, rfl, rfl, wk, wn, ws⟩
theorem shut_val {k n : Int} {s : ByteArray} (hk : (Lit.int .i64 k).wf = true) (hn : (Lit.int .i64 n).wf = true) (hs : s.size ≤ maxLen) :
    DataW.Trod enc Try.prog w base sp held 25 (vv k n s) (.agg [.lit (.int .i64 k), .lit (.int .i64 n), .lit (.string s.data.toList)]) [] := by
  have h0 : DataW.Trod enc Try.prog w base sp held 3 (.int .i64 k) (.lit (.int .i64 k)) [] := shut_int Try.underlying3 hk
  have h1 : DataW.Trod enc Try.prog w base sp held 2 (.int .i64 n) (.lit (.int .i64 n)) [] := shut_int Try.underlying2 hn
  have h2 : DataW.Trod enc Try.prog w base sp held 9 (.string s) (.lit (.string s.data.toList)) [] := ChangeMaps.shut_string Try.underlying9 hs
  exact Joins.shut_agg3 Try.underlying25 (by kernel_rfl) (by kernel_rfl) h0 h1 h2
end

/-- Two values are the same. -/
def sameV (k n : Int) (s : ByteArray) (k' n' : Int) (s' : ByteArray) : Bool := k == k' && (n == n' && s.toList == s'.toList)
theorem eqGuard_val (op : BinOp) (x y : Operand) (xs ys : Array Value) (w : World) : (eqGuard op 25 x y (.agg xs) (.agg ys)).run Try.prog w = .ok () w := run_eqGuard_agg w op 25 x y xs ys (by kernel_rfl)
theorem run_eq_val (k n : Int) (s : ByteArray) (k' n' : Int) (s' : ByteArray) (w : World) :
    (binOp .eql 25 (vv k n s) (vv k' n' s')).run Try.prog w = .ok (.bool (sameV k n s k' n' s')) w := by
  rw [run_eql_struct, run_equalIn_agg w 9999 25 _ _ (by kernel_rfl) (by kernel_rfl)]
  simp only [Program.fieldsOf, Try.underlying25]
  unfold sameV
  by_cases h1 : k = k'
  · by_cases h2 : n = n'
    · by_cases h3 : s.toList = s'.toList
      · simp [Op.eqFields, go_sem, h1, h2, h3]
      · simp [Op.eqFields, go_sem, h1, h2, h3]
    · simp [Op.eqFields, go_sem, h1, h2]
  · simp [Op.eqFields, go_sem, h1]
theorem run_neq_val (k n : Int) (s : ByteArray) (k' n' : Int) (s' : ByteArray) (w : World) :
    (binOp .neq 25 (vv k n s) (vv k' n' s')).run Try.prog w = .ok (.bool (!sameV k n s k' n' s')) w := by
  have h := run_eq_val k n s k' n' s' w
  rw [run_eql_struct] at h
  rw [run_neq_struct]
  cases hr : (Op.equalIn 10000 25 (vv k n s) (vv k' n' s')).run Try.prog w with
  | ok b w' =>
    rw [hr] at h
    simp only [Result.andThen_ok, Result.ok.injEq, Value.bool.injEq] at h ⊢
    exact ⟨by rw [h.1], h.2⟩
  | halt x w' =>
    rw [hr] at h
    cases h
theorem toList_inj {s t : ByteArray} (h : s.toList = t.toList) : s = t := by
  obtain ⟨⟨x⟩⟩ := s
  obtain ⟨⟨y⟩⟩ := t
  simpa using h
theorem sameV_iff {k n : Int} {s : ByteArray} {k' n' : Int} {s' : ByteArray} : sameV k n s k' n' s' = true ↔ k = k' ∧ n = n' ∧ s = s' := by
  unfold sameV
  constructor
  · intro h
    simp only [Bool.and_eq_true, beq_iff_eq] at h
    exact ⟨h.1, h.2.1, toList_inj h.2.2⟩
  · rintro ⟨rfl, rfl, rfl⟩
    simp
theorem sameV_self (k n : Int) (s : ByteArray) : sameV k n s k n s = true := sameV_iff.2 ⟨rfl, rfl, rfl⟩

/-- In a region that draws: a Value is loaded out of its box; two are held against one another. -/
theorem run_load_val {ρ : Operand → Value} {o : Oper} {x : Operand} {g : Nat} {k n : Int} {s : ByteArray} {w : World} (ho : o.op = .load 25 x) (hx : ρ x = .pointer (some ⟨g, 0, none⟩)) (hB : Boxed g k n s w) :
    (execOp ρ o).run Try.prog w = .ok (.value (vv k n s)) w := by
  have h := run_loadVar_row w g 25 25 _ (0, 0) _ hB.blk Try.underlying25 rfl Try.sizeVal
  unfold execOp
  rw [ho]
  simp only [hx, Instr.loadAt, Instr.sureAddr, Sem.run_bind, Sem.run_pure, Result.andThen_ok, h]
theorem op_eq_val {ρ : Operand → Value} {o : Oper} {x y : Operand} {k n : Int} {s : ByteArray} {k' n' : Int} {s' : ByteArray} {w : World} (ho : o.op = .binOp .eql 25 x y 25) (hx : ρ x = vv k n s) (hy : ρ y = vv k' n' s') :
    (execOp ρ o).run Try.prog w = .ok (.value (.bool (sameV k n s k' n' s'))) w := by
  have h1 := run_eq_val k n s k' n' s' w
  have h2 := eqGuard_val .eql x y #[.int .i64 k, .int .i64 n, .string s] #[.int .i64 k', .int .i64 n', .string s'] w
  unfold execOp
  rw [ho]
  simp only [hx, hy, Sem.run_bind, h1, h2, Result.andThen_ok, Sem.run_pure]
theorem op_neq_val {ρ : Operand → Value} {o : Oper} {x y : Operand} {k n : Int} {s : ByteArray} {k' n' : Int} {s' : ByteArray} {w : World} (ho : o.op = .binOp .neq 25 x y 25) (hx : ρ x = vv k n s) (hy : ρ y = vv k' n' s') :
    (execOp ρ o).run Try.prog w = .ok (.value (.bool (!sameV k n s k' n' s'))) w := by
  have h1 := run_neq_val k n s k' n' s' w
  have h2 := eqGuard_val .neq x y #[.int .i64 k, .int .i64 n, .string s] #[.int .i64 k', .int .i64 n', .string s'] w
  unfold execOp
  rw [ho]
  simp only [hx, hy, Sem.run_bind, h1, h2, Result.andThen_ok, Sem.run_pure]
end Go.Proofs.Ytgiofdmedhhobaa

namespace Go.Proofs.Ytgiofdmedhhobaa
open Go.RowKit
set_option linter.unusedVariables false

/-- The slice (A, n, cap) holds the elements l, each of k cells as enc tells. -/
structure Sl {α : Type} (k : Nat) (enc : α → List Value) (w : World) (A : Option Addr) (n cap : Nat) (l : List α) : Prop where
  len : l.length = n
  le : n ≤ cap
  max : cap ≤ 9223372036854775807
  nil : A = none → n = 0 ∧ cap = 0
  rd : 0 < n → ∃ b off, A = some ⟨b, off, none⟩ ∧ b < w.heap.size ∧ ∀ i x, l[i]? = some x → ∀ j u, (enc x)[j]? = some u → w.cell? ⟨b, off + i * k + j, none⟩ = some u

section
variable {α : Type} {k : Nat} {enc : α → List Value} {w w' : World} {A : Option Addr} {n cap : Nat} {l : List α}
theorem Sl.below (h : Sl k enc w A n cap l) (hb : Below w.heap.size w w') : Sl k enc w' A n cap l :=
  ⟨h.len, h.le, h.max, h.nil, fun hn => by
    obtain ⟨b, off, e, hlt, hc⟩ := h.rd hn
    exact ⟨b, off, e, Nat.lt_of_lt_of_le hlt hb.size, fun i x hx j u hu => (hb.cell (p := ⟨b, off + i * k + j, none⟩) hlt).trans (hc i x hx j u hu)⟩⟩
theorem Sl.ev (h : Sl k enc w A n cap l) (hb : Ev w w') : Sl k enc w' A n cap l := h.below hb
theorem Sl.but {K : List Nat} (h : Sl k enc w A n cap l) (hb : But K w w') (hA : ∀ ad, A = some ad → ad.block ∉ K) : Sl k enc w' A n cap l :=
  ⟨h.len, h.le, h.max, h.nil, fun hn => by
    obtain ⟨b, off, e, hlt, hc⟩ := h.rd hn
    refine ⟨b, off, e, Nat.lt_of_lt_of_le hlt hb.size, fun i x hx j u hu => ?_⟩
    rw [World.cell?_of_block (w := w) (hb.block b hlt (hA _ e))]
    exact hc i x hx j u hu⟩
theorem Sl.nil_ (w : World) : Sl k enc w none 0 0 ([] : List α) := ⟨rfl, Nat.le_refl _, by omega, fun _ => ⟨rfl, rfl⟩, fun h => absurd h (by omega)⟩
/-- 'b[:m]'. -/
theorem Sl.to (h : Sl k enc w A n cap l) (m : Nat) (hm : m ≤ n) : Sl k enc w A m cap (l.take m) :=
  ⟨by rw [List.length_take, h.len]; omega, Nat.le_trans hm h.le, h.max, fun e => by have := h.nil e; omega, fun h0 => by
    obtain ⟨b, off, e, hlt, hc⟩ := h.rd (by omega)
    refine ⟨b, off, e, hlt, fun i x hx j u hu => hc i x ?_ j u hu⟩
    rw [List.getElem?_take] at hx
    split at hx
    · exact hx
    · cases hx⟩
theorem Sl.at (h : Sl k enc w A n cap l) {i : Nat} (hi : i < n) : ∃ x, l[i]? = some x := ⟨_, List.getElem?_eq_getElem (by rw [h.len]; exact hi)⟩
end

/-- A Value; a column. -/
abbrev V := Int × Int × ByteArray
abbrev C := ByteArray × Int
abbrev V.v (x : V) : Value := vv x.1 x.2.1 x.2.2
def vcells (x : V) : List Value := [.int .i64 x.1, .int .i64 x.2.1, .string x.2.2]
def ccells (x : C) : List Value := [.string x.1, .int .i64 x.2]
/-- The slice holds the Values l; the columns l. -/
abbrev Vs := Sl 3 vcells
abbrev Cs := Sl 2 ccells

/-- Element i of a row: its three cells. -/
theorem Sl.vcell {w : World} {A : Option Addr} {n cap : Nat} {l : List V} (h : Vs w A n cap l) {i : Nat} (hi : i < n) :
    ∃ b off x, A = some ⟨b, off, none⟩ ∧ b < w.heap.size ∧ l[i]? = some x ∧ w.cell? ⟨b, off + i * 3, none⟩ = some (.int .i64 x.1) ∧ w.cell? ⟨b, off + i * 3 + 1, none⟩ = some (.int .i64 x.2.1) ∧ w.cell? ⟨b, off + i * 3 + 2, none⟩ = some (.string x.2.2) := by
  obtain ⟨x, hx⟩ := h.at hi
  obtain ⟨b, off, e, hlt, hc⟩ := h.rd (by omega)
  exact ⟨b, off, x, e, hlt, hx, hc i x hx 0 _ rfl, hc i x hx 1 _ rfl, hc i x hx 2 _ rfl⟩
theorem Sl.ccell {w : World} {A : Option Addr} {n cap : Nat} {l : List C} (h : Cs w A n cap l) {i : Nat} (hi : i < n) :
    ∃ b off x, A = some ⟨b, off, none⟩ ∧ b < w.heap.size ∧ l[i]? = some x ∧ w.cell? ⟨b, off + i * 2, none⟩ = some (.string x.1) ∧ w.cell? ⟨b, off + i * 2 + 1, none⟩ = some (.int .i64 x.2) := by
  obtain ⟨x, hx⟩ := h.at hi
  obtain ⟨b, off, e, hlt, hc⟩ := h.rd (by omega)
  exact ⟨b, off, x, e, hlt, hx, hc i x hx 0 _ rfl, hc i x hx 1 _ rfl⟩

/-- Values are held against one another: in a region, in a quiet one. -/
theorem sameV_dec (x y : V) : sameV x.1 x.2.1 x.2.2 y.1 y.2.1 y.2.2 = decide (x = y) := by
  rw [Bool.eq_iff_iff, sameV_iff, decide_eq_true_iff]
  constructor
  · rintro ⟨h1, h2, h3⟩; exact Prod.ext h1 (Prod.ext h2 h3)
  · rintro rfl; exact ⟨rfl, rfl, rfl⟩
theorem quiet_eq_val {C_ : World → Prop} {K : Act → Prop} {a : Act} {o : Oper} {x y : Operand} {k n : Int} {s : ByteArray} {k' n' : Int} {s' : ByteArray} (ho : o.op = .binOp .eql 25 x y 25) (hx : a.eval x = vv k n s) (hy : a.eval y = vv k' n' s')
    (hk : K (a.put o.dst (.bool (sameV k n s k' n' s')))) : o.quiet Try.prog a C_ K :=
  ⟨_, fun w _ => by unfold Oper.quietAt; rw [op_eq_val ho hx hy]; exact ⟨rfl, rfl⟩, hk⟩
theorem quiet_neq_val {C_ : World → Prop} {K : Act → Prop} {a : Act} {o : Oper} {x y : Operand} {k n : Int} {s : ByteArray} {k' n' : Int} {s' : ByteArray} (ho : o.op = .binOp .neq 25 x y 25) (hx : a.eval x = vv k n s) (hy : a.eval y = vv k' n' s')
    (hk : K (a.put o.dst (.bool (!sameV k n s k' n' s')))) : o.quiet Try.prog a C_ K :=
  ⟨_, fun w _ => by unfold Oper.quietAt; rw [op_neq_val ho hx hy]; exact ⟨rfl, rfl⟩, hk⟩
/-- A Value is loaded out of an element. -/
theorem run_load_elem {ρ : Operand → Value} {o : Oper} {x : Operand} {b off : Nat} {k n : Int} {s : ByteArray} {w : World} (ho : o.op = .load 25 x) (hx : ρ x = .pointer (some ⟨b, off, none⟩))
    (c0 : w.cell? ⟨b, off, none⟩ = some (.int .i64 k)) (c1 : w.cell? ⟨b, off + 1, none⟩ = some (.int .i64 n)) (c2 : w.cell? ⟨b, off + 2, none⟩ = some (.string s)) :
    (execOp ρ o).run Try.prog w = .ok (.value (vv k n s)) w := by
  unfold execOp
  rw [ho]
  simp [hx, go_sem, c0, c1, c2]
end Go.Proofs.Ytgiofdmedhhobaa

namespace Go.Proofs.Ytgiofdmedhhobaa
open Go.RowKit
set_option linter.unusedVariables false

abbrev By := List UInt8
/-- A tree. -/
inductive T where
  | mk (kind : Int) (s : By) (n : Int) (kids : List T) (pos : Nat) : T
def T.kind : T → Int
  | .mk k _ _ _ _ => k
def T.s : T → By
  | .mk _ s _ _ _ => s
def T.n : T → Int
  | .mk _ _ n _ _ => n
def T.kids : T → List T
  | .mk _ _ _ l _ => l
def T.pos : T → Nat
  | .mk _ _ _ _ p => p
def T.add (e t : T) : T := .mk e.kind e.s e.n (e.kids ++ [t]) e.pos
def sxZero : T := .mk 0 [] 0 [] 0
/-- A token, or why there is none. -/
structure Tk where
  kind : Int
  s : By
  n : Int
  size : Nat
  why : Int
  fault : Nat
def Tk.tree (x : Tk) (pos : Nat) : T := .mk x.kind x.s x.n [] pos

def sxRun (p : UInt8 → Bool) : By → Nat
  | [] => 0
  | c :: l => if p c then sxRun p l + 1 else 0
def sxBlank (c : UInt8) : Bool := c.toNat == 32 || c.toNat == 10
def sxLetter (c : UInt8) : Bool := decide (97 ≤ c.toNat) && decide (c.toNat ≤ 122)
def sxDigit (c : UInt8) : Bool := decide (48 ≤ c.toNat) && decide (c.toNat ≤ 57)
def sxPlain (c : UInt8) : Bool := decide (32 ≤ c.toNat) && decide (c.toNat ≤ 126) && !(c.toNat == 34) && !(c.toNat == 92)
def sxWrong (why : Int) (fault : Nat) : Tk := ⟨0, [], 0, 0, why, fault⟩
/-- The opposite of the number with these digits, behind n. -/
def sxBelow : By → Int → Option Int
  | [], n => some n
  | c :: l, n => if n < -((9223372036854775808 - ((c.toNat : Int) - 48)) / 10) then none else sxBelow l (n * 10 - ((c.toNat : Int) - 48))
def sxDigits (l : By) : By := l.take (sxRun sxDigit l)
def sxNum (plus : Bool) (d : By) : Tk :=
  match sxBelow d 0 with
  | none => sxWrong 12 0
  | some n => if d.isEmpty || plus && decide (n = -9223372036854775808) then sxWrong 12 0 else if plus then ⟨3, [], -n, d.length, 0, 0⟩ else ⟨3, [], n, 1 + d.length, 0, 0⟩
def sxNumber : By → Tk
  | [] => sxNum true []
  | c :: q => if c.toNat == 45 then sxNum false (sxDigits q) else sxNum true (sxDigits (c :: q))
def sxHex (c : UInt8) : Option Nat :=
  if 48 ≤ c.toNat ∧ c.toNat ≤ 57 then some (c.toNat - 48) else if 97 ≤ c.toNat ∧ c.toNat ≤ 102 then some (c.toNat - 87) else none
def sxEscaped : By → UInt8 × Int
  | [] => (0, 10)
  | x :: q => match sxHex x with
    | none => (0, 12)
    | some a => match q with
      | [] => (0, 10)
      | y :: _ => match sxHex y with
        | none => (0, 12)
        | some b => (UInt8.ofNat (16 * a + b), 0)
def sxTextGo : By → By → Nat → Tk
  | _, [], i => sxWrong 10 i
  | b, c :: q, i =>
    if sxPlain c then sxTextGo (b ++ [c]) q (i + 1)
    else if c.toNat == 92 then
      match q with
      | [] => sxWrong 10 (i + 1)
      | x :: q1 => match sxHex x with
        | none => sxWrong 12 i
        | some h => match q1 with
          | [] => sxWrong 10 (i + 2)
          | y :: q2 => match sxHex y with
            | none => sxWrong 12 i
            | some k => sxTextGo (b ++ [UInt8.ofNat (16 * h + k)]) q2 (i + 3)
    else if c.toNat == 34 then (if 40 < b.length then sxWrong 3 0 else ⟨4, b, 0, i + 1, 0, 0⟩)
    else sxWrong 12 i
def sxScan : By → Tk
  | [] => sxWrong 12 0
  | c :: q =>
    if c.toNat == 40 then ⟨1, [], 0, 1, 0, 0⟩
    else if c.toNat == 41 then ⟨-1, [], 0, 1, 0, 0⟩
    else if c.toNat == 34 then sxTextGo [] q 1
    else if c.toNat == 45 || sxDigit c then sxNumber (c :: q)
    else if sxLetter c then ⟨2, (c :: q).take (sxRun sxLetter (c :: q)), 0, sxRun sxLetter (c :: q), 0, 0⟩
    else sxWrong 12 0
/-- Has a tree been read? -/
def sxDone : List T → Bool
  | [] => false
  | e :: _ => !e.kids.isEmpty
def sxJudge (os : List T) (x : Tk) : Int × Nat :=
  if !(x.why == 0) && !(sxDone os && decide (0 < x.fault)) then (x.why, x.fault)
  else if x.kind == -1 && os.length == 1 then (12, 0)
  else if !(x.kind == -1) && sxDone os then (11, 0)
  else if x.kind == 1 && decide (12 < os.length) then (14, 0)
  else (0, 0)
def sxPut : List T → T → List T
  | [], _ => []
  | [e], t => [e.add t]
  | e :: e' :: os, t => e :: sxPut (e' :: os) t
def sxTake (os : List T) (t : T) : List T :=
  if t.kind == 1 then os ++ [t]
  else if t.kind == -1 then (match os.getLast? with | none => os | some e => sxPut os.dropLast e)
  else sxPut os t
abbrev Res := T × Int × Nat
def sxWhole (os : List T) (pos : Nat) : Res :=
  match os with
  | [] => (sxZero, 10, pos)
  | e :: _ => match e.kids with
    | [] => (sxZero, 10, pos)
    | t :: _ => (t, 0, 0)
def sxGo : Nat → List T → By → Nat → Res
  | 0, _, _, _ => (sxZero, 12, 0)
  | f + 1, os, r, pos =>
    match r.drop (sxRun sxBlank r) with
    | [] => sxWhole os (pos + sxRun sxBlank r)
    | c :: q =>
      if (sxJudge os (sxScan (c :: q))).1 == 0 then
        sxGo f (sxTake os ((sxScan (c :: q)).tree (pos + sxRun sxBlank r))) ((c :: q).drop (sxScan (c :: q)).size) (pos + sxRun sxBlank r + (sxScan (c :: q)).size)
      else (sxZero, (sxJudge os (sxScan (c :: q))).1, pos + sxRun sxBlank r + (sxJudge os (sxScan (c :: q))).2)
def sxRead (l : By) : Res := if 600 < l.length then (sxZero, 3, 0) else sxGo (l.length + 1) [sxZero] l 0

theorem sxRun_le (p : UInt8 → Bool) : ∀ l : By, sxRun p l ≤ l.length
  | [] => Nat.le_refl _
  | c :: l => by
    unfold sxRun
    have := sxRun_le p l
    split <;> simp <;> omega
theorem sxRun_step (p : UInt8 → Bool) : ∀ (l : By) (k : Nat) (c : UInt8), l[k]? = some c → sxRun p (l.drop k) = if p c then sxRun p (l.drop (k + 1)) + 1 else 0
  | [], k, c, h => by simp at h
  | x :: l, 0, c, h => by
    simp at h
    subst h
    simp [sxRun]
  | x :: l, k + 1, c, h => by
    have := sxRun_step p l k c (by simpa using h)
    simpa using this
theorem sxRun_all (p : UInt8 → Bool) : ∀ l : By, ∀ c ∈ l.take (sxRun p l), p c = true
  | [], c, h => by simp [sxRun] at h
  | x :: l, c, h => by
    unfold sxRun at h
    split at h
    · rename_i hx
      rw [List.take_succ_cons] at h
      rcases List.mem_cons.1 h with rfl | h
      · exact hx
      · exact sxRun_all p l c h
    · simp at h
theorem sxRun_stop (p : UInt8 → Bool) : ∀ (l : By) (c : UInt8), l[sxRun p l]? = some c → p c = false
  | [], c, h => by simp at h
  | x :: l, c, h => by
    unfold sxRun at h
    split at h
    · exact sxRun_stop p l c (by simpa using h)
    · rename_i hx
      simp at h
      subst h
      simpa using hx
theorem sxPut_snoc : ∀ (os : List T) (e t : T), sxPut (os ++ [e]) t = os ++ [e.add t]
  | [], e, t => rfl
  | [a], e, t => rfl
  | a :: b :: os, e, t => by
    have := sxPut_snoc (b :: os) e t
    simp only [List.cons_append] at this ⊢
    unfold sxPut
    rw [this]
theorem sxTextGo_run : ∀ (r b : By) (i : Nat), sxTextGo b r i = sxTextGo (b ++ r.take (sxRun sxPlain r)) (r.drop (sxRun sxPlain r)) (i + sxRun sxPlain r)
  | [], b, i => by simp [sxRun]
  | c :: q, b, i => by
    by_cases h : sxPlain c = true
    · have e : sxRun sxPlain (c :: q) = sxRun sxPlain q + 1 := by simp [sxRun, h]
      rw [e, List.take_succ_cons, List.drop_succ_cons]
      conv => lhs; unfold sxTextGo
      simp only [h, if_true]
      rw [sxTextGo_run q (b ++ [c]) (i + 1)]
      rw [List.append_assoc, List.singleton_append, show i + 1 + sxRun sxPlain q = i + (sxRun sxPlain q + 1) by omega]
    · have e : sxRun sxPlain (c :: q) = 0 := by simp [sxRun, h]
      rw [e]
      simp
end Go.Proofs.Ytgiofdmedhhobaa

namespace Go.Proofs.Ytgiofdmedhhobaa
open Go.RowKit
set_option linter.unusedVariables false

theorem sx_getD_at (s : ByteArray) (k : Nat) (h : k < s.size) : s[k] = s.data.toList.getD k 0 := by
  obtain ⟨a⟩ := s
  have h2 : k < a.size := h
  show a[k] = _
  simp [List.getD, h2]
theorem sx_at (s : ByteArray) (k : Nat) (h : k < s.size) : s.data.toList[k]? = some s[k] := by
  rw [sx_getD_at s k h]
  have h2 : k < s.data.toList.length := by rw [Array.length_toList]; exact h
  simp [List.getD, List.getElem?_eq_getElem h2]

end Go.Proofs.Ytgiofdmedhhobaa

namespace Go.Proofs.Ytgiofdmedhhobaa
open Go.RowKit
set_option linter.unusedVariables false

theorem bl_irrefl : ∀ x : List UInt8, Op.bytesLess x x = false
  | [] => rfl
  | a :: x => by simp [Op.bytesLess, bl_irrefl x]
theorem bl_tri : ∀ x y : List UInt8, x ≠ y → Op.bytesLess x y = !Op.bytesLess y x
  | [], [], h => absurd rfl h
  | [], _ :: _, _ => rfl
  | _ :: _, [], _ => rfl
  | a :: x, b :: y, h => by
    by_cases hab : a = b
    · subst hab
      have h2 : x ≠ y := fun e => h (by rw [e])
      simp [Op.bytesLess, bl_tri x y h2]
    · have hn : a.toNat ≠ b.toNat := fun e => hab (UInt8.toNat_inj.1 e)
      have hba : ¬ b = a := fun e => hab e.symm
      by_cases hlt : a < b
      · have h3 : ¬ b < a := by rw [UInt8.lt_iff_toNat_lt] at hlt ⊢; omega
        simp [Op.bytesLess, hlt, h3, hba]
      · have h3 : b < a := by rw [UInt8.lt_iff_toNat_lt] at hlt ⊢; omega
        simp [Op.bytesLess, hlt, h3, hab]
theorem bl_trans : ∀ x y z : List UInt8, Op.bytesLess x y = true → Op.bytesLess y z = true → Op.bytesLess x z = true
  | [], [], _, h, _ => by cases h
  | [], _ :: _, [], _, h => by cases h
  | [], _ :: _, _ :: _, _, _ => rfl
  | _ :: _, [], _, h, _ => by cases h
  | _ :: _, _ :: _, [], _, h => by cases h
  | a :: x, b :: y, c :: z, h1, h2 => by
    simp only [Op.bytesLess, Bool.or_eq_true, Bool.and_eq_true, decide_eq_true_eq, beq_iff_eq] at h1 h2 ⊢
    rcases h1 with h1 | ⟨rfl, h1⟩
    · rcases h2 with h2 | ⟨rfl, h2⟩
      · left; rw [UInt8.lt_iff_toNat_lt] at h1 h2 ⊢; omega
      · exact .inl h1
    · rcases h2 with h2 | ⟨rfl, h2⟩
      · exact .inl h2
      · exact .inr ⟨rfl, bl_trans x y z h1 h2⟩

theorem right_kind {k n : Int} {s : ByteArray} (h : rightV k n s = true) : (k = 1 ∧ s = ⟨#[]⟩) ∨ (k = 2 ∧ n = 0 ∧ s.size ≤ 40) := by
  unfold rightV at h
  split at h
  · rename_i h1
    obtain ⟨⟨l⟩⟩ := s
    have : l = [] := by simpa using h
    subst this
    exact .inl ⟨h1, rfl⟩
  · split at h
    · rename_i h1
      simp at h
      exact .inr ⟨h1, h.1, h.2⟩
    · cases h
theorem less_tri {k n : Int} {s : ByteArray} {k' n' : Int} {s' : ByteArray} (h : rightV k n s = true) (h' : rightV k' n' s' = true) :
    (lessV k n s k' n' s' != lessV k' n' s' k n s) = !sameV k n s k' n' s' := by
  have key : (sameV k n s k' n' s' = true → lessV k n s k' n' s' = lessV k' n' s' k n s) ∧ (sameV k n s k' n' s' = false → lessV k n s k' n' s' = !lessV k' n' s' k n s) := by
    constructor
    · intro e
      obtain ⟨rfl, rfl, rfl⟩ := sameV_iff.1 e
      rfl
    · intro e
      have hne : ¬ (k = k' ∧ n = n' ∧ s = s') := fun c => by rw [sameV_iff.2 c] at e; cases e
      unfold lessV
      rw [h, h']
      simp only [Bool.and_self, if_pos]
      rcases right_kind h with ⟨rfl, rfl⟩ | ⟨rfl, rfl, _⟩
      · rcases right_kind h' with ⟨rfl, rfl⟩ | ⟨rfl, rfl, _⟩
        · have hn : n ≠ n' := fun c => hne ⟨rfl, c, rfl⟩
          have hd : decide (n < n') = !decide (n' < n) := by
            by_cases a : n < n'
            · have b : ¬ n' < n := by omega
              simp [a, b]
            · have b : n' < n := by omega
              simp [a, b]
          simp only [if_true]
          exact hd
        · simp
      · rcases right_kind h' with ⟨rfl, rfl⟩ | ⟨rfl, rfl, _⟩
        · simp
        · have hs : s.toList ≠ s'.toList := fun c => hne ⟨rfl, rfl, toList_inj c⟩
          simp [bl_tri _ _ hs]
  cases hsm : sameV k n s k' n' s'
  · rw [key.2 hsm]; cases lessV k' n' s' k n s <;> rfl
  · rw [key.1 hsm]; cases lessV k' n' s' k n s <;> rfl
theorem less_trans {k n : Int} {s : ByteArray} {k' n' : Int} {s' : ByteArray} {k2 n2 : Int} {s2 : ByteArray} (h1 : lessV k n s k' n' s' = true) (h2 : lessV k' n' s' k2 n2 s2 = true) : lessV k n s k2 n2 s2 = true := by
  unfold lessV at h1 h2 ⊢
  split at h1
  · rename_i hr1
    split at h2
    · rename_i hr2
      simp only [Bool.and_eq_true] at hr1 hr2
      rw [hr1.1, hr2.2]
      simp only [Bool.and_self, if_pos]
      rcases right_kind hr1.1 with ⟨rfl, rfl⟩ | ⟨rfl, rfl, _⟩
      · rcases right_kind hr1.2 with ⟨rfl, rfl⟩ | ⟨rfl, rfl, _⟩
        · rcases right_kind hr2.2 with ⟨rfl, rfl⟩ | ⟨rfl, rfl, _⟩
          · simp at h1 h2 ⊢; omega
          · simp
        · rcases right_kind hr2.2 with ⟨rfl, rfl⟩ | ⟨rfl, rfl, _⟩
          · simp at h2
          · simp
      · rcases right_kind hr1.2 with ⟨rfl, rfl⟩ | ⟨rfl, rfl, _⟩
        · simp at h1
        · rcases right_kind hr2.2 with ⟨rfl, rfl⟩ | ⟨rfl, rfl, _⟩
          · simp at h2
          · simp at h1 h2 ⊢; exact bl_trans _ _ _ h1 h2
    · cases h2
  · cases h1

theorem take_app {x r : List UInt8} {k : Nat} (h : x.length = k) (why pos : Nat) (p : List UInt8) (hp : p.length = pos) (L : List UInt8) (hL : L = p ++ (x ++ r)) : rdTake L 0 pos k = (x, 0, pos + k) := by
  subst hL
  unfold rdTake rdLeft
  rw [if_pos (by simp; omega)]
  simp only [← hp, List.drop_left, ← h, List.take_left]
theorem le_val_small (k n : Nat) (h : n < 256 ^ k) : leVal (le k n) = n := by rw [leVal_le, Nat.mod_eq_of_lt h]
theorem low_small {n : Int} (h0 : -9223372036854775808 ≤ n) (h1 : n ≤ 9223372036854775807) : wrap64 ((low n : Nat) : Int) = n := by
  rw [low_cast]
  unfold wrap64
  omega
/-- What is put is got. -/
theorem val_back {k n : Int} {s : ByteArray} (h : rightV k n s = true) (h0 : -9223372036854775808 ≤ n) (h1 : n ≤ 9223372036854775807) :
    rdVal (putV k n s) 0 0 = ((k, n, s.data.toList), 0, (putV k n s).length) := by
  rcases right_kind h with ⟨rfl, rfl⟩ | ⟨rfl, rfl, hs⟩
  · have e0 : putV 1 n ⟨#[]⟩ = le 1 (low 1) ++ le 8 (low n) := rfl
    have e1 := take_app (x := le 1 (low 1)) (r := le 8 (low n)) (le_length 1 _) 0 0 [] rfl _ e0
    have e2 := take_app (x := le 8 (low n)) (r := []) (le_length 8 _) 0 1 (le 1 (low 1)) rfl (putV 1 n ⟨#[]⟩) (by rw [e0, List.append_nil])
    have e3 : rdRaw (putV 1 n ⟨#[]⟩) 0 0 = ((1, n, []), 0, 9) := by
      unfold rdRaw
      rw [e1]
      simp only [show leVal (le 1 (low 1)) = 1 from rfl, if_true, Nat.zero_add, e2]
      rw [le_val_small 8 _ (low_lt n), low_small h0 h1]
    unfold rdVal
    rw [e3]
    simp [e0, le_length]
  · have hl : s.data.toList.length = s.size := by rw [Array.length_toList]; rfl
    have e0 : putV 2 0 s = le 1 (low 2) ++ (le 2 s.size ++ s.data.toList) := by rw [← hl]; rfl
    have e1 := take_app (x := le 1 (low 2)) (r := le 2 s.size ++ s.data.toList) (le_length 1 _) 0 0 [] rfl _ e0
    have e2 := take_app (x := le 2 s.size) (r := s.data.toList) (le_length 2 _) 0 1 (le 1 (low 2)) rfl (putV 2 0 s) e0
    have e3 := take_app (x := s.data.toList) (r := []) hl 0 3 (le 1 (low 2) ++ le 2 s.size) (by simp [le_length]) (putV 2 0 s) (by rw [e0, List.append_nil, List.append_assoc])
    have hv : leVal (le 2 s.size) = s.size := le_val_small 2 _ (by omega)
    have e4 : rdText (putV 2 0 s) 0 1 40 = (s.data.toList, 0, 3 + s.size) := by
      unfold rdText
      rw [e2]
      simp only [hv, if_neg (show ¬ 40 < s.size by omega)]
      exact e3
    have e5 : rdRaw (putV 2 0 s) 0 0 = ((2, 0, s.data.toList), 0, 3 + s.size) := by
      unfold rdRaw
      rw [e1]
      simp only [show leVal (le 1 (low 2)) = 2 from rfl, if_neg (show ¬ 2 = 1 by decide), if_true, Nat.zero_add, e4]
    unfold rdVal
    rw [e5]
    simp [e0, le_length, hl]
    omega
end Go.Proofs.Ytgiofdmedhhobaa

namespace Go.Proofs.Ytgiofdmedhhobaa
open Go.RowKit
set_option linter.unusedVariables false

/-- P5.2: all values are valid; the row is. -/
abbrev rightVV (x : V) : Bool := rightV x.1 x.2.1 x.2.2
abbrev lessVV (x y : V) : Bool := lessV x.1 x.2.1 x.2.2 y.1 y.2.1 y.2.2
def okR (l : List V) : Bool := l.all fun x => rightVV x
def rightR (l : List V) : Bool := (decide (1 ≤ l.length) && decide (l.length ≤ 6)) && okR l
theorem okR_take {l : List V} {k : Nat} {x : V} (hx : l[k]? = some x) : okR (l.take (k + 1)) = (okR (l.take k) && rightVV x) := by
  obtain ⟨hk, rfl⟩ := List.getElem?_eq_some_iff.1 hx
  unfold okR
  rw [List.take_succ_eq_append_getElem hk, List.all_append]
  simp
theorem okR_not {l : List V} {k : Nat} {x : V} (hx : l[k]? = some x) (hr : rightVV x = false) : okR l = false := by
  unfold okR
  rw [List.all_eq_false]
  exact ⟨x, List.mem_of_getElem? hx, by simp [hr]⟩
theorem okR_at {l : List V} {k : Nat} {x : V} (h : okR l = true) (hx : l[k]? = some x) : rightVV x = true := List.all_eq_true.1 h x (List.mem_of_getElem? hx)
theorem rightR_ok {l : List V} (h : rightR l = true) : okR l = true := by unfold rightR at h; simp only [Bool.and_eq_true] at h; exact h.2
theorem rightR_len {l : List V} (h : rightR l = true) : 1 ≤ l.length ∧ l.length ≤ 6 := by unfold rightR at h; simp only [Bool.and_eq_true, decide_eq_true_eq] at h; exact h.1

theorem take_step {α : Type} {a b : List α} {k : Nat} {x : α} (h : a.take k = b.take k) (hx : a[k]? = some x) (hy : b[k]? = some x) : a.take (k + 1) = b.take (k + 1) := by
  obtain ⟨ha, rfl⟩ := List.getElem?_eq_some_iff.1 hx
  obtain ⟨hb, e⟩ := List.getElem?_eq_some_iff.1 hy
  rw [List.take_succ_eq_append_getElem ha, List.take_succ_eq_append_getElem hb, h, e]

/-- P5.2: the order of rows. -/
def lessL : List V → List V → Bool
  | _, [] => false
  | [], _ :: _ => true
  | x :: a, y :: b => if x = y then lessL a b else lessVV x y
def lessR (a b : List V) : Bool := if rightR a && rightR b then lessL a b else false
theorem lessVV_self (x : V) : lessVV x x = false := by
  unfold lessVV lessV
  split
  · simp [bl_irrefl]
  · rfl
theorem lessVV_tri {x y : V} (h : rightVV x = true) (h' : rightVV y = true) (hne : x ≠ y) : lessVV x y = !lessVV y x := by
  have := less_tri h h'
  have hs : sameV x.1 x.2.1 x.2.2 y.1 y.2.1 y.2.2 = false := by
    cases hc : sameV x.1 x.2.1 x.2.2 y.1 y.2.1 y.2.2
    · rfl
    · obtain ⟨h1, h2, h3⟩ := sameV_iff.1 hc
      exact absurd (Prod.ext h1 (Prod.ext h2 h3)) hne
  rw [hs] at this
  unfold lessVV
  revert this
  generalize lessV x.1 x.2.1 x.2.2 y.1 y.2.1 y.2.2 = p
  generalize lessV y.1 y.2.1 y.2.2 x.1 x.2.1 x.2.2 = q
  revert p q
  decide
theorem lessVV_trans {x y z : V} (h1 : lessVV x y = true) (h2 : lessVV y z = true) : lessVV x z = true := less_trans h1 h2
theorem lessVV_ne {x y : V} (h : lessVV x y = true) : x ≠ y := by rintro rfl; rw [lessVV_self] at h; cases h
theorem lessL_self : ∀ a : List V, lessL a a = false
  | [] => rfl
  | x :: a => by simp [lessL, lessL_self a]
theorem okR_cons {x : V} {a : List V} (h : okR (x :: a) = true) : rightVV x = true ∧ okR a = true := by unfold okR at h ⊢; simpa using h
theorem lessL_tri : ∀ a b : List V, okR a = true → okR b = true → a ≠ b → lessL a b = !lessL b a
  | [], [], _, _, h => absurd rfl h
  | [], _ :: _, _, _, _ => rfl
  | _ :: _, [], _, _, _ => rfl
  | x :: a, y :: b, h, h', hne => by
    unfold lessL
    by_cases e : x = y
    · subst e
      simp only [if_true]
      exact lessL_tri a b (okR_cons h).2 (okR_cons h').2 (fun c => hne (by rw [c]))
    · rw [if_neg e, if_neg (fun c => e c.symm)]
      exact lessVV_tri (okR_cons h).1 (okR_cons h').1 e
theorem lessL_trans : ∀ a b c : List V, lessL a b = true → lessL b c = true → lessL a c = true
  | _, [], _, h, _ => by simp [lessL] at h
  | _, _ :: _, [], _, h => by simp [lessL] at h
  | [], _ :: _, _ :: _, _, _ => rfl
  | x :: a, y :: b, z :: c, h1, h2 => by
    unfold lessL at h1 h2 ⊢
    by_cases e1 : x = y
    · subst e1
      rw [if_pos rfl] at h1
      by_cases e2 : x = z
      · subst e2
        rw [if_pos rfl] at h2 ⊢
        exact lessL_trans a b c h1 h2
      · rw [if_neg e2] at h2 ⊢
        exact h2
    · rw [if_neg e1] at h1
      by_cases e2 : y = z
      · subst e2
        rw [if_neg e1]
        exact h1
      · rw [if_neg e2] at h2
        have h3 := lessVV_trans h1 h2
        rw [if_neg (lessVV_ne h3)]
        exact h3
theorem lessL_more (x : V) (b : List V) : ∀ a : List V, lessL a (a ++ x :: b) = true
  | [] => rfl
  | y :: a => by simp [lessL, lessL_more x b a]
theorem lessL_common : ∀ (k : Nat) (a b : List V), a.take k = b.take k → k ≤ a.length → k ≤ b.length → lessL a b = lessL (a.drop k) (b.drop k)
  | 0, _, _, _, _, _ => rfl
  | k + 1, [], _, _, h, _ => by simp at h
  | k + 1, _ :: _, [], _, _, h => by simp at h
  | k + 1, x :: a, y :: b, h, h1, h2 => by
    simp only [List.take_succ_cons, List.cons.injEq] at h
    obtain ⟨rfl, h⟩ := h
    simp only [List.length_cons, Nat.add_le_add_iff_right] at h1 h2
    simp only [lessL, if_true, List.drop_succ_cons]
    exact lessL_common k a b h h1 h2
theorem drop_of_get {α : Type} {a : List α} {k : Nat} {x : α} (h : a[k]? = some x) : a.drop k = x :: a.drop (k + 1) := by
  obtain ⟨hk, rfl⟩ := List.getElem?_eq_some_iff.1 h
  exact List.drop_eq_getElem_cons hk
theorem lessL_at {k : Nat} {a b : List V} {x y : V} (h : a.take k = b.take k) (hx : a[k]? = some x) (hy : b[k]? = some y) (hne : x ≠ y) : lessL a b = lessVV x y := by
  rw [lessL_common k a b h (Nat.le_of_lt (List.getElem?_eq_some_iff.1 hx).1) (Nat.le_of_lt (List.getElem?_eq_some_iff.1 hy).1), drop_of_get hx, drop_of_get hy]
  simp [lessL, hne]
theorem lessL_end {k : Nat} {a b : List V} (h : a.take k = b.take k) (h1 : k ≤ a.length) (h2 : k ≤ b.length) (he : k = a.length ∨ k = b.length) : lessL a b = decide (a.length < b.length) := by
  rw [lessL_common k a b h h1 h2]
  by_cases hb : k = b.length
  · have h3 : b.drop k = [] := List.drop_eq_nil_of_le (by omega)
    rw [h3]
    have : ¬ a.length < b.length := by omega
    simp [lessL, this]
  · have ha : k = a.length := he.resolve_right hb
    have h3 : a.drop k = [] := List.drop_eq_nil_of_le (by omega)
    have h4 : k < b.length := by omega
    rw [h3, List.drop_eq_getElem_cons h4]
    have : a.length < b.length := by omega
    simp [lessL, this]
theorem eq_end {α : Type} {k : Nat} {a b : List α} (h : a.take k = b.take k) (h1 : k = a.length) (h2 : k = b.length) : a = b := by
  rwa [List.take_of_length_le (by omega), List.take_of_length_le (by omega)] at h
theorem ne_at {α : Type} {k : Nat} {a b : List α} {x y : α} (hx : a[k]? = some x) (hy : b[k]? = some y) (hne : x ≠ y) : a ≠ b := by
  rintro rfl
  exact hne (Option.some.inj (hx.symm.trans hy))

/-- P5.2: the same. -/
def eqL (a b : List V) : Bool := decide (a = b)
def sameR (a b : List V) : Bool := rightR a && eqL a b
theorem sameR_less {a b : List V} : sameR a b = (rightR a && rightR b && !lessL a b && !lessL b a) := by
  unfold sameR eqL
  by_cases e : a = b
  · subst e
    simp [lessL_self]
  · simp only [decide_eq_false e, Bool.and_false]
    cases ha : rightR a
    · rfl
    · cases hb : rightR b
      · rfl
      · have := lessL_tri a b (rightR_ok ha) (rightR_ok hb) e
        rw [this]
        cases lessL b a <;> rfl

/-- P5.2: each value is of its column's Kind. -/
def fitsL : List C → List V → Bool
  | [], [] => true
  | c :: l, x :: r => (rightVV x && x.1 == c.2) && fitsL l r
  | _, _ => false
theorem fitsL_len : ∀ (l : List C) (r : List V), fitsL l r = true → l.length = r.length
  | [], [], _ => rfl
  | [], _ :: _, h => by cases h
  | _ :: _, [], h => by cases h
  | c :: l, x :: r, h => by
    simp only [fitsL, Bool.and_eq_true] at h
    simp [fitsL_len l r h.2]
theorem fitsL_ne {l : List C} {r : List V} (h : l.length ≠ r.length) : fitsL l r = false := by
  cases hf : fitsL l r
  · rfl
  · exact absurd (fitsL_len l r hf) h
theorem fitsL_step : ∀ (k : Nat) (l : List C) (r : List V) (c : C) (x : V), fitsL (l.take k) (r.take k) = true → l[k]? = some c → r[k]? = some x → rightVV x = true → x.1 = c.2 → fitsL (l.take (k + 1)) (r.take (k + 1)) = true
  | 0, [], _, _, _, _, h, _, _, _ => by cases h
  | 0, _ :: _, [], _, _, _, _, h, _, _ => by cases h
  | 0, c :: l, x :: r, _, _, _, h1, h2, hr, hk => by
    simp at h1 h2
    subst h1; subst h2
    simp [fitsL, hr, hk]
  | k + 1, [], _, _, _, _, h, _, _, _ => by cases h
  | k + 1, _ :: _, [], _, _, _, _, h, _, _ => by cases h
  | k + 1, c :: l, x :: r, c', x', h, h1, h2, hr, hk => by
    rw [List.take_succ_cons, List.take_succ_cons] at h ⊢
    simp only [fitsL, Bool.and_eq_true] at h ⊢
    exact ⟨h.1, fitsL_step k l r c' x' h.2 (by simpa using h1) (by simpa using h2) hr hk⟩
theorem fitsL_not : ∀ (k : Nat) (l : List C) (r : List V) (c : C) (x : V), l[k]? = some c → r[k]? = some x → (rightVV x = false ∨ x.1 ≠ c.2) → fitsL l r = false
  | _, [], _, _, _, h, _, _ => by simp at h
  | _, _ :: _, [], _, _, _, h, _ => by simp at h
  | 0, c :: l, x :: r, _, _, h1, h2, h => by
    simp at h1 h2
    subst h1; subst h2
    rcases h with h | h
    · simp [fitsL, h]
    · simp [fitsL, h]
  | k + 1, c :: l, x :: r, c', x', h1, h2, h => by
    simp only [fitsL]
    rw [fitsL_not k l r c' x' (by simpa using h1) (by simpa using h2) h]
    simp
theorem fitsL_at : ∀ (k : Nat) (l : List C) (r : List V) (c : C) (x : V), fitsL l r = true → l[k]? = some c → r[k]? = some x → rightVV x = true ∧ x.1 = c.2 := by
  intro k l r c x h h1 h2
  constructor
  · cases hr : rightVV x
    · rw [fitsL_not k l r c x h1 h2 (.inl hr)] at h; cases h
    · rfl
  · by_cases hk : x.1 = c.2
    · exact hk
    · rw [fitsL_not k l r c x h1 h2 (.inr hk)] at h; cases h

/-- P5.1: names. -/
def words : List (List UInt8) := [[116, 97, 98, 108, 101], [102, 105, 108, 116, 101, 114], [112, 114, 111, 106, 101, 99, 116], [106, 111, 105, 110], [117, 110, 105, 111, 110], [100, 105, 115, 116, 105, 110, 99, 116], [103, 114, 111, 117, 112], [99, 111, 117, 110, 116], [115, 117, 109], [109, 105, 110], [109, 97, 120], [97, 100, 100], [115, 117, 98], [109, 117, 108], [110, 101, 103], [101, 113], [108, 116], [97, 110, 100], [111, 114], [110, 111, 116], [99, 97, 116], [108, 101, 110], [105, 102]]
def letterB (c : UInt8) : Bool := decide (97 ≤ c.toNat) && decide (c.toNat ≤ 122)
def nameV (s : ByteArray) : Bool := (decide (1 ≤ s.size) && decide (s.size ≤ 12)) && (s.data.toList.all letterB && !words.contains s.data.toList)
/-- P5.1: where a column of this name stands first. -/
def named (s : ByteArray) (c : C) : Bool := c.1.toList == s.toList
def findC (l : List C) (s : ByteArray) : Option Nat := l.findIdx? (named s)
theorem findC_some {l : List C} {s : ByteArray} {k : Nat} {c : C} (hT : ∀ i c, i < k → l[i]? = some c → named s c = false) (hc : l[k]? = some c) (h : named s c = true) : findC l s = some k := by
  unfold findC
  rw [List.findIdx?_eq_some_iff_getElem]
  obtain ⟨hk, rfl⟩ := List.getElem?_eq_some_iff.1 hc
  exact ⟨hk, h, fun j hj => by simp [hT j _ hj (List.getElem?_eq_getElem (by omega))]⟩
theorem findC_none {l : List C} {s : ByteArray} (hT : ∀ i c, i < l.length → l[i]? = some c → named s c = false) : findC l s = none := by
  unfold findC
  rw [List.findIdx?_eq_none_iff]
  intro c hc
  obtain ⟨i, hi, rfl⟩ := List.getElem_of_mem hc
  exact hT i _ hi (List.getElem?_eq_getElem hi)
def foundAt (o : Option Nat) : Int := match o with | some k => (k : Int) | none => 0
/-- P5.1: the first error of columns. -/
def colsFrom (pre : List C) : List C → Int
  | [] => 0
  | c :: r => if (nameV c.1 && (c.2 == 1 || c.2 == 2)) = false then 20 else if (findC pre c.1).isSome = true then 21 else colsFrom (pre ++ [c]) r
def colsV (l : List C) : Int := if (decide (1 ≤ l.length) && decide (l.length ≤ 6)) = true then colsFrom [] l else 23
theorem colsFrom_at {l : List C} {k : Nat} {c : C} (hc : l[k]? = some c) : colsFrom (l.take k) (l.drop k) =
    if (nameV c.1 && (c.2 == 1 || c.2 == 2)) = false then 20 else if (findC (l.take k) c.1).isSome = true then 21 else colsFrom (l.take (k + 1)) (l.drop (k + 1)) := by
  have ht : l.take (k + 1) = l.take k ++ [c] := by
    obtain ⟨hk, rfl⟩ := List.getElem?_eq_some_iff.1 hc
    rw [List.take_succ_eq_append_getElem hk]
  rw [drop_of_get hc, ht]
  rfl
end Go.Proofs.Ytgiofdmedhhobaa

namespace Go.Proofs.Ytgiofdmedhhobaa
open Go.RowKit
set_option linter.unusedVariables false

def vlist (l : List V) : List Value := l.flatMap vcells
theorem vlist_length (l : List V) : (vlist l).length = l.length * 3 := by
  induction l with
  | nil => rfl
  | cons x l ih =>
    have : (vlist (x :: l)).length = 3 + (vlist l).length := by simp [vlist, vcells]; omega
    rw [this, ih, List.length_cons]; omega
theorem vlist_append (l m : List V) : vlist (l ++ m) = vlist l ++ vlist m := by simp [vlist]
theorem vlist_get : ∀ (l : List V) (i : Nat) (x : V), l[i]? = some x → ∀ j u, (vcells x)[j]? = some u → (vlist l)[i * 3 + j]? = some u
  | [], _, _, h, _, _, _ => by simp at h
  | y :: l, 0, x, h, j, u, hu => by
    simp at h
    subst h
    have hj : j < 3 := (List.getElem?_eq_some_iff.1 hu).1
    have e : vlist (y :: l) = vcells y ++ vlist l := rfl
    rw [e, Nat.zero_mul, Nat.zero_add, List.getElem?_append_left (by simpa [vcells] using hj)]
    exact hu
  | y :: l, i + 1, x, h, j, u, hu => by
    have e : vlist (y :: l) = vcells y ++ vlist l := rfl
    have hl : (vcells y).length = 3 := rfl
    rw [e, List.getElem?_append_right (by rw [hl]; omega), hl, show (i + 1) * 3 + j - 3 = i * 3 + j by omega]
    exact vlist_get l i x (by simpa using h) j u hu
theorem vlist_back : ∀ (l : List V) (q : Nat) (u : Value), (vlist l)[q]? = some u → ∃ x, l[q / 3]? = some x ∧ (vcells x)[q % 3]? = some u
  | [], q, u, h => by simp [vlist] at h
  | y :: l, q, u, h => by
    have e : vlist (y :: l) = vcells y ++ vlist l := rfl
    have hl : (vcells y).length = 3 := rfl
    rw [e] at h
    by_cases hq : q < 3
    · rw [List.getElem?_append_left (by rw [hl]; exact hq)] at h
      refine ⟨y, by rw [Nat.div_eq_of_lt hq]; rfl, ?_⟩
      rw [Nat.mod_eq_of_lt hq]
      exact h
    · rw [List.getElem?_append_right (by rw [hl]; omega), hl] at h
      obtain ⟨x, h1, h2⟩ := vlist_back l (q - 3) u h
      refine ⟨x, ?_, ?_⟩
      · rw [show q / 3 = (q - 3) / 3 + 1 by omega]
        simpa using h1
      · rw [show q % 3 = (q - 3) % 3 by omega]
        exact h2
theorem vlist_one (l : List V) : ∀ u ∈ vlist l, u.oneCell' = true := by
  intro u hu
  obtain ⟨x, _, hx⟩ := List.mem_flatMap.1 hu
  simp [vcells] at hx
  rcases hx with rfl | rfl | rfl <;> rfl

/-- v is a slice that holds l, in a row of its own or nowhere. -/
def Vrow (w : World) (v : Value) (l : List V) : Prop := w.ownsRow 0 25 3 v l.length (vlist l)
theorem Vrow.nil_ (w : World) : Vrow w (.slice none 0 0) [] := World.ownsRow_nil _ _ _ _
theorem Vrow.of {w : World} {base n : Nat} {v : Value} {l : List V} (h : w.ownsRow base 25 3 v n (vlist l)) : Vrow w v l := by
  have hn : l.length = n := by have := h.1; rw [vlist_length] at this; omega
  subst hn
  refine ⟨h.1, ?_⟩
  rcases h.2 with h2 | ⟨g, cap, cur, hv, hg, r⟩
  · exact .inl h2
  · exact .inr ⟨g, cap, cur, hv, Nat.zero_le _, r⟩
theorem Vrow.but {K : List Nat} {w w' : World} {v : Value} {l : List V} (h : Vrow w v l) (hb : But K w w') (hn : ∀ g, v.ownBlock = some g → g ∉ K) : Vrow w' v l := by
  refine ⟨h.1, ?_⟩
  rcases h.2 with h2 | ⟨g, cap, cur, rfl, hg, hh, r⟩
  · exact .inl h2
  · exact .inr ⟨g, cap, cur, rfl, hg, hb.heap hh (hn g rfl), r⟩
theorem Vrow.ev {w w' : World} {v : Value} {l : List V} (h : Vrow w v l) (hb : Ev w w') : Vrow w' v l := h.but (But.of_ev (K := []) hb) (fun _ _ => by simp)
theorem Vrow.lt {w : World} {v : Value} {l : List V} (h : Vrow w v l) {g : Nat} (hg : v.ownBlock = some g) : g < w.heap.size := (World.ownsRow.lt (show w.ownsRow _ _ _ _ _ _ from h) g hg).2
theorem Vrow.vs {w : World} {v : Value} {l : List V} (h : Vrow w v l) : ∃ A cap, v = .slice A l.length cap ∧ Vs w A l.length cap l ∧ (∀ ad, A = some ad → v.ownBlock = some ad.block) := by
  rcases h.2 with ⟨rfl, hn⟩ | ⟨g, cap, cur, rfl, hb, hg, hnc, hcm, hcs, ht⟩
  · have hl : l = [] := List.eq_nil_of_length_eq_zero hn
    subst hl
    exact ⟨none, 0, rfl, Sl.nil_ w, by simp⟩
  · refine ⟨_, _, rfl, ⟨rfl, hnc, by simpa [maxLen] using hcm, by simp, fun h0 => ⟨g, 0, rfl, (Array.getElem?_eq_some_iff.1 hg).1, fun i x hx j u hu => ?_⟩⟩, by rintro ad ⟨⟩; rfl⟩
    have hi := (List.getElem?_eq_some_iff.1 hx).1
    have hj : j < 3 := (List.getElem?_eq_some_iff.1 hu).1
    have := World.ownsRow.cellAt (show w.ownsRow 0 25 3 (.slice (some ⟨g, 0, none⟩) l.length cap) l.length (vlist l) from h) (i * 3 + j) (by omega)
    rw [Nat.zero_add, this]
    exact vlist_get l i x hx j u hu
theorem Vrow.form {w : World} {v : Value} {l : List V} (h : Vrow w v l) : ∃ A n cap, v = .slice A n cap := by
  obtain ⟨A, cap, rfl, _⟩ := h.vs
  exact ⟨_, _, _, rfl⟩
theorem Vrow.ne_block {w : World} {v : Value} {l : List V} (h : Vrow w v l) {b : Nat} {cs : Array Value} {T : TypeId} {fr : Nat × Nat} (hb : w.heap[b]? = some (.cells cs T fr)) (hT : T ≠ 25) : v.ownBlock ≠ some b := by
  intro e
  rcases h.2 with ⟨rfl, _⟩ | ⟨g, cap, cur, rfl, _, hg, _⟩
  · cases e
  · simp only [Value.ownBlock, Option.some.injEq] at e
    subst e
    rw [hb] at hg
    simp only [Option.some.injEq, Obj.cells.injEq] at hg
    exact hT hg.2.1
/-- A literal of one Value. -/
theorem Vs.made_one (w : World) (k n : Int) (s : ByteArray) : Vs (w.alloc (.cells #[.int .i64 k, .int .i64 n, .string s] 25)) (some ⟨w.heap.size, 0, none⟩) 1 1 [(k, n, s)] :=
  ⟨rfl, Nat.le_refl _, by omega, by simp, fun _ => ⟨w.heap.size, 0, rfl, by simp, fun i x hx j u hu => by
    have hi : i = 0 := by have := (List.getElem?_eq_some_iff.1 hx).1; simp at this; omega
    subst hi
    simp at hx
    subst hx
    rw [Lib.cell_of_heap (heap_alloc_new w _)]
    simpa [vcells] using hu⟩⟩

/-- append of Values onto a row of the call's own. -/
theorem run_append_vals {P : Program} {w : World} (ty : TypeId)
    (ht : P.underlying 29 = some (.slice 25)) (hi : (P.info? 25).map (fun i => (i.zero, i.size, i.bytes)) = some (some (.agg #[.int .i64 0, .int .i64 0, .string ⟨#[]⟩]), 3, 32))
    (v : Value) (xs : List V) (hown : Vrow w v xs) (A : Option Addr) (m c : Nat) (l : List V) (hB : Vs w A m c l) (hbytes : (xs.length + l.length) * 32 ≤ 140737488355328) :
    ∃ v' w', (Builtin.append_ #[29, 29] ty #[v, .slice A m c]).run P w = .ok v' w' ∧ Vrow w' v' (xs ++ l) ∧ But (foot v) w w' ∧ Sprung w v v' := by
  obtain ⟨i, hi0, hz, hsz, hby⟩ := info_parts hi
  have hl := hB.len
  cases A with
  | none =>
    obtain ⟨h0, h1⟩ := hB.nil rfl
    subst h0; subst h1
    have hnil : l = [] := List.eq_nil_of_length_eq_zero hl
    subst hnil
    exact ⟨v, w, run_append_owned_none (P := P) (w := w) 0 29 ty 25 i 3 ht hi0 v _ _ hown, by simpa using hown, But.refl _ _, Sprung.refl _ _⟩
  | some ad =>
    have hcells : ∀ j u, (vlist l)[j]? = some u → w.cell? (ad.add j) = some u := by
      intro q u hu
      obtain ⟨x, hx, hxu⟩ := vlist_back l q u hu
      have hq := (List.getElem?_eq_some_iff.1 hx).1
      obtain ⟨b, off, e, _, hc⟩ := hB.rd (by omega)
      obtain rfl := Option.some.inj e
      have := hc (q / 3) x hx (q % 3) u hxu
      rw [Addr.add_lit]
      rwa [show off + q / 3 * 3 + q % 3 = off + q by omega] at this
    obtain ⟨v', w', hr, h1, h2, _, h4⟩ := run_append_own_at (P := P) w 0 29 ty 25 i _ 3 32 ht hi0 hz hsz hby rfl (by decide) v xs.length (vlist xs) hown ad m c (vlist l) (by rw [vlist_length, hl]) hcells (vlist_one l) (by unfold maxLen; omega) (by rw [← hl]; exact hbytes) (Nat.zero_le _)
    refine ⟨v', w', hr, Vrow.of (base := 0) (n := xs.length + m) (by rw [vlist_append]; exact h1), But.grown h2 (fun g hg => mem_foot.2 hg), fun g hg => ?_⟩
    rcases h4 with h4 | h4
    · exact .inl (h4 ▸ hg)
    · rw [h4] at hg; simp at hg; exact .inr (by omega)

theorem wpList_append_vals {P : Program} {w : World} {ops : Array Oper} {rest : List Oper} {o : Oper} {a : Act} {Q : Exit → Act → World → Prop} (hgd : o.guard = none) (s x : Operand)
    (ho : o.op = .call { callee := .builtin .append, args := #[s, x], argTypes := #[29, 29] })
    (ht : P.underlying 29 = some (.slice 25)) (hi : (P.info? 25).map (fun i => (i.zero, i.size, i.bytes)) = some (some (.agg #[.int .i64 0, .int .i64 0, .string ⟨#[]⟩]), 3, 32))
    (v : Value) (xs : List V) (hs : a.eval s = v) (hown : Vrow w v xs) (A : Option Addr) (m c : Nat) (l : List V) (hx : a.eval x = .slice A m c) (hB : Vs w A m c l) (hbytes : (xs.length + l.length) * 32 ≤ 140737488355328)
    (h : ∀ v' w', Vrow w' v' (xs ++ l) → But (foot v) w w' → Sprung w v v' → wpList P ops Q rest (a.put o.dst v') w') : wpList P ops Q (o :: rest) a w := by
  refine wpList_plain hgd fun K hK => ?_
  obtain ⟨v', w', hr, h2, h3, h4⟩ := run_append_vals (P := P) (w := w) o.type ht hi v xs hown A m c l hB hbytes
  unfold Oper.wp execOp
  simp only [ho, resolve, invoke, builtin, Sem.run_bind, Sem.run_pure, Result.andThen_ok, List.map_toArray, List.map_cons, List.map_nil, hs, hx, hr]
  exact hK _ _ (h v' w' h2 h3 h4)
theorem Try.infoVal : (Try.prog.info? 25).map (fun i => (i.zero, i.size, i.bytes)) = some (some (.agg #[.int .i64 0, .int .i64 0, .string ⟨#[]⟩]), 3, 32) := by kernel_rfl

/-- P5.3: what Put writes. -/
abbrev putVV (x : V) : List UInt8 := putV x.1 x.2.1 x.2.2
def putR (l : List V) : List UInt8 := le 1 (low (l.length : Int)) ++ l.flatMap putVV
/-- A bound on what is written of the values. -/
def sizeR : List V → Nat
  | [] => 0
  | x :: l => x.2.2.size + 9 + sizeR l
theorem flat_put_le : ∀ l : List V, (l.flatMap putVV).length ≤ sizeR l
  | [] => Nat.le_refl _
  | x :: l => by
    have h1 := putV_length x.1 x.2.1 x.2.2
    have h2 := flat_put_le l
    simp only [List.flatMap_cons, List.length_append, sizeR]
    unfold putVV at *
    omega
theorem sizeR_take : ∀ (l : List V) (k : Nat) (x : V), l[k]? = some x → sizeR (l.take k) + (x.2.2.size + 9) ≤ sizeR l
  | [], _, _, h => by simp at h
  | y :: l, 0, x, h => by simp at h; subst h; simp [sizeR]
  | y :: l, k + 1, x, h => by
    have := sizeR_take l k x (by simpa using h)
    simp only [List.take_succ_cons, sizeR]
    omega
theorem sizeR_take_le : ∀ (l : List V) (k : Nat), sizeR (l.take k) ≤ sizeR l
  | [], k => by simp [sizeR]
  | y :: l, 0 => by simp [sizeR]
  | y :: l, k + 1 => by
    have := sizeR_take_le l k
    simp only [List.take_succ_cons, sizeR]
    omega
theorem flat_take {l : List V} {k : Nat} {x : V} (h : l[k]? = some x) : (l.take (k + 1)).flatMap putVV = (l.take k).flatMap putVV ++ putVV x := by
  obtain ⟨hk, rfl⟩ := List.getElem?_eq_some_iff.1 h
  rw [List.take_succ_eq_append_getElem hk, List.flatMap_append]
  simp
theorem putR_length (l : List V) : (putR l).length ≤ 1 + sizeR l := by
  have := flat_put_le l
  unfold putR
  rw [List.length_append, le_length]
  omega

/-- P5.3: the number of values that is read; the values. -/
def rdX (L : List UInt8) (why pos : Nat) : V := ((rdVal L why pos).1.1, (rdVal L why pos).1.2.1, ⟨(rdVal L why pos).1.2.2.toArray⟩)
def rdCount (L : List UInt8) (why pos : Nat) : Nat × Nat × Nat :=
  if 0 < rdLeft L why pos ∧ ¬ (1 ≤ leVal (rdTake L why pos 1).1 ∧ leVal (rdTake L why pos 1).1 ≤ 6) then (0, 3, pos) else (leVal (rdTake L why pos 1).1, (rdTake L why pos 1).2)
def rdLoop (L : List UInt8) : Nat → List V → Nat → Nat → List V × Nat × Nat
  | 0, acc, why, pos => (acc, why, pos)
  | m + 1, acc, why, pos => if rightVV (rdX L why pos) = true then rdLoop L m (acc ++ [rdX L why pos]) (rdVal L why pos).2.1 (rdVal L why pos).2.2 else ([], (rdVal L why pos).2)
def rdRow (L : List UInt8) (why pos : Nat) : List V × Nat × Nat := rdLoop L (rdCount L why pos).1 [] (rdCount L why pos).2.1 (rdCount L why pos).2.2
theorem rdCount_le (L : List UInt8) (why pos : Nat) : (rdCount L why pos).1 ≤ 6 := by
  unfold rdCount
  split
  · exact Nat.zero_le _
  · rename_i h
    by_cases hl : 0 < rdLeft L why pos
    · have : 1 ≤ leVal (rdTake L why pos 1).1 ∧ leVal (rdTake L why pos 1).1 ≤ 6 := by
        by_cases h2 : 1 ≤ leVal (rdTake L why pos 1).1 ∧ leVal (rdTake L why pos 1).1 ≤ 6
        · exact h2
        · exact absurd ⟨hl, h2⟩ h
      exact this.2
    · have : (rdTake L why pos 1).1 = [] := by unfold rdTake; rw [if_neg (by omega)]
      rw [this]
      simp [leVal]
theorem rdLoop_end (L : List UInt8) (acc : List V) (why pos : Nat) : rdLoop L 0 acc why pos = (acc, why, pos) := rfl
end Go.Proofs.Ytgiofdmedhhobaa

namespace Go.Proofs.Ytgiofdmedhhobaa
open Go.RowKit
set_option linter.unusedVariables false

/-- How far two rows go together. -/
structure Shares (a b : List V) (i : Nat) : Prop where
  le : i ≤ a.length
  le' : i ≤ b.length
  same : a.take i = b.take i
  differ : ∀ x y, a[i]? = some x → b[i]? = some y → x ≠ y

end Go.Proofs.Ytgiofdmedhhobaa

namespace Go.Proofs.Ytgiofdmedhhobaa
open Go.RowKit
set_option linter.unusedVariables false

theorem empty_iff (s : ByteArray) : (s = ⟨#[]⟩) ↔ s.toList.isEmpty = true := by
  rw [List.isEmpty_iff]
  constructor
  · rintro rfl; simp
  · intro h
    exact toList_inj (by simpa using h)

set_option maxRecDepth 100000 in
set_option maxHeartbeats 1600000 in
theorem refr_right (k n : Int) (s : ByteArray) (w : World) :
    Calls Try.prog 57 #[vv k n s] w fun e w' => e = .returned (.bool (rightV k n s)) ∧ Ev w w' := by
  by_cases h1 : k = 1
  · subst h1
    by_cases hs : s = ⟨#[]⟩
    · subst hs
      go_enter Try.func57, Try.ntmps57
      go_wp2
      go_ret
      exact ⟨by simp [rightV], Ev.alloc _ _⟩
    · have he : s.toList.isEmpty = false := by
        cases h : s.toList.isEmpty
        · rfl
        · exact absurd ((empty_iff s).2 h) hs
      have hr : rightV 1 n s = false := by simp [rightV, he]
      rw [hr]
      go_enter Try.func57, Try.ntmps57
      go_wp2
      go_ret
      exact ⟨rfl, Ev.alloc _ _⟩
  · by_cases h2 : k = 2
    · subst h2
      by_cases h3 : n = 0
      · subst h3
        by_cases h4 : (s.size : Int) ≤ 40
        · have hr : rightV 2 0 s = true := by simp [rightV]; omega
          rw [hr]
          go_enter Try.func57, Try.ntmps57
          go_wp2
          go_ret
          exact ⟨rfl, Ev.alloc _ _⟩
        · have hr : rightV 2 0 s = false := by simp [rightV]; omega
          rw [hr]
          go_enter Try.func57, Try.ntmps57
          go_wp2
          go_ret
          exact ⟨rfl, Ev.alloc _ _⟩
      · have hr : rightV 2 n s = false := by simp [rightV, h3]
        rw [hr]
        go_enter Try.func57, Try.ntmps57
        go_wp2
        go_ret
        exact ⟨rfl, Ev.alloc _ _⟩
    · have hr : rightV k n s = false := by simp [rightV, h1, h2]
      rw [hr]
      go_enter Try.func57, Try.ntmps57
      go_wp2
      go_ret
      exact ⟨rfl, Ev.alloc _ _⟩

set_option maxRecDepth 100000 in
set_option maxHeartbeats 1600000 in
theorem refr_less (k n : Int) (s : ByteArray) (k' n' : Int) (s' : ByteArray) (w : World) :
    Calls Try.prog 60 #[vv k n s, vv k' n' s'] w fun e w' => e = .returned (.bool (lessV k n s k' n' s')) ∧ Ev w w' := by
  have hR := Lib.hid (fun w1 => refr_right k n s w1)
  have hR' := Lib.hid (fun w1 => refr_right k' n' s' w1)
  have hE : lessV k n s k' n' s' = if rightV k n s && rightV k' n' s' then (if k = k' then (if k = 1 then decide (n < n') else Op.bytesLess s.toList s'.toList) else k == 1) else false := rfl
  rw [hE]
  clear hE
  generalize rightV k n s = r at *
  generalize rightV k' n' s' = r' at *
  obtain ⟨w0, hw0, B, B', hE0⟩ := Boxed.two k n s k' n' s' w
  have c0 := B.c0; have c1 := B.c1; have c2 := B.c2; have d0 := B'.c0; have d1 := B'.c1; have d2 := B'.c2
  go_enter Try.func60, Try.ntmps60
  cases r
  · go_wp2_with (first | ((with_reducible refine (hR.out _).mono ?_); rintro x w1 ⟨rfl, hE1⟩; rw [← hw0] at hE1))
    go_ret
    exact ⟨rfl, hE0.trans hE1⟩
  · cases r'
    · go_wp2_with (first | ((with_reducible refine (hR.out _).mono ?_); rintro x w1 ⟨rfl, hE1⟩; rw [← hw0] at hE1; have d0 := (B'.ev hE1).c0; have d1 := (B'.ev hE1).c1; have d2 := (B'.ev hE1).c2) | ((with_reducible refine (hR'.out _).mono ?_); rintro x w2 ⟨rfl, hE2⟩))
      go_ret
      exact ⟨rfl, (hE0.trans hE1).trans hE2⟩
    · by_cases hk : k = k'
      · subst hk
        by_cases h1 : k = 1
        · subst h1
          go_wp2_with (first | ((with_reducible refine (hR.out _).mono ?_); rintro x w1 ⟨rfl, hE1⟩; rw [← hw0] at hE1; have B1' := B'.ev hE1; have d0 := B1'.c0; have d1 := B1'.c1; have d2 := B1'.c2) | ((with_reducible refine (hR'.out _).mono ?_); rintro x w2 ⟨rfl, hE2⟩; have B2 := (B.ev hE1).ev hE2; have B2' := B1'.ev hE2; have c0 := B2.c0; have c1 := B2.c1; have c2 := B2.c2; have d0 := B2'.c0; have d1 := B2'.c1; have d2 := B2'.c2))
          go_ret
          exact ⟨by simp, (hE0.trans hE1).trans hE2⟩
        · go_wp2_with (first | ((with_reducible refine (hR.out _).mono ?_); rintro x w1 ⟨rfl, hE1⟩; rw [← hw0] at hE1; have B1' := B'.ev hE1; have d0 := B1'.c0; have d1 := B1'.c1; have d2 := B1'.c2) | ((with_reducible refine (hR'.out _).mono ?_); rintro x w2 ⟨rfl, hE2⟩; have B2 := (B.ev hE1).ev hE2; have B2' := B1'.ev hE2; have c0 := B2.c0; have c1 := B2.c1; have c2 := B2.c2; have d0 := B2'.c0; have d1 := B2'.c1; have d2 := B2'.c2))
          go_ret
          exact ⟨by simp, (hE0.trans hE1).trans hE2⟩
      · by_cases h1 : k = 1
        · subst h1
          go_wp2_with (first | ((with_reducible refine (hR.out _).mono ?_); rintro x w1 ⟨rfl, hE1⟩; rw [← hw0] at hE1; have B1' := B'.ev hE1; have d0 := B1'.c0; have d1 := B1'.c1; have d2 := B1'.c2) | ((with_reducible refine (hR'.out _).mono ?_); rintro x w2 ⟨rfl, hE2⟩; have B2 := (B.ev hE1).ev hE2; have B2' := B1'.ev hE2; have c0 := B2.c0; have c1 := B2.c1; have c2 := B2.c2; have d0 := B2'.c0; have d1 := B2'.c1; have d2 := B2'.c2))
          go_ret
          exact ⟨by simp, (hE0.trans hE1).trans hE2⟩
        · go_wp2_with (first | ((with_reducible refine (hR.out _).mono ?_); rintro x w1 ⟨rfl, hE1⟩; rw [← hw0] at hE1; have B1' := B'.ev hE1; have d0 := B1'.c0; have d1 := B1'.c1; have d2 := B1'.c2) | ((with_reducible refine (hR'.out _).mono ?_); rintro x w2 ⟨rfl, hE2⟩; have B2 := (B.ev hE1).ev hE2; have B2' := B1'.ev hE2; have c0 := B2.c0; have c1 := B2.c1; have c2 := B2.c2; have d0 := B2'.c0; have d1 := B2'.c1; have d2 := B2'.c2))
          go_ret
          exact ⟨by simp, (hE0.trans hE1).trans hE2⟩
end Go.Proofs.Ytgiofdmedhhobaa

namespace Go.Proofs.Ytgiofdmedhhobaa
open Go.RowKit
set_option linter.unusedVariables false

theorem rdStop3 (why pos : Nat) (h : why = 0) : rdStop why pos 3 pos = (3, pos) := by unfold rdStop; rw [if_pos h]
theorem take3 (L : List UInt8) (pos : Nat) : rdTake L 3 pos 1 = ([], 3, pos) := by
  unfold rdTake rdLeft rdStop
  simp

end Go.Proofs.Ytgiofdmedhhobaa

namespace Go.Proofs.Ytgiofdmedhhobaa
open Go.RowKit
set_option linter.unusedVariables false

/-- The numbers of a row fit an int64. -/
def okN (l : List V) : Prop := ∀ x ∈ l, -9223372036854775808 ≤ x.2.1 ∧ x.2.1 ≤ 9223372036854775807

theorem rdText_le (L : List UInt8) (why pos most : Nat) : (rdText L why pos most).1.length ≤ most := by
  unfold rdText
  simp only
  by_cases h : most < leVal (rdTake L why pos 2).1
  · rw [if_pos h]
    have h0 : rdLeft L (rdStop (rdTake L why pos 2).2.1 (rdTake L why pos 2).2.2 3 pos).1 (rdStop (rdTake L why pos 2).2.1 (rdTake L why pos 2).2.2 3 pos).2 = 0 := by
      unfold rdLeft rdStop
      by_cases h1 : (rdTake L why pos 2).2.1 = 0
      · rw [if_pos h1]; simp
      · rw [if_neg h1, if_neg h1]
    unfold rdTake
    unfold rdTake at h h0
    rw [if_neg (by rw [h0]; omega)]
    exact Nat.zero_le _
  · rw [if_neg h]
    exact Nat.le_trans (rdTake_le _ _ _ _) (by omega)
theorem rdVal_ok (L : List UInt8) (why pos : Nat) : rightV (rdVal L why pos).1.1 (rdVal L why pos).1.2.1 ⟨(rdVal L why pos).1.2.2.toArray⟩ = ((rdVal L why pos).2.1 == 0) := by
  unfold rdVal
  by_cases he : (rdRaw L why pos).2.1 = 0
  · simp only [he, if_true, beq_self_eq_true]
    unfold rdRaw at he ⊢
    simp only at he ⊢
    by_cases h1 : leVal (rdTake L why pos 1).1 = 1
    · rw [if_pos h1]
      simp [rightV]
    · rw [if_neg h1] at he ⊢
      by_cases h2 : leVal (rdTake L why pos 1).1 = 2
      · rw [if_pos h2]
        have := rdText_le L (rdTake L why pos 1).2.1 (rdTake L why pos 1).2.2 40
        simp only [rightV]
        have e : (⟨(rdText L (rdTake L why pos 1).2.1 (rdTake L why pos 1).2.2 40).1.toArray⟩ : ByteArray).size = (rdText L (rdTake L why pos 1).2.1 (rdTake L why pos 1).2.2 40).1.length := by
          show (List.toArray _).size = _
          simp
        rw [e]
        simp [this]
      · rw [if_neg h2] at he
        unfold rdStop at he
        by_cases h3 : (rdTake L why pos 1).2.1 = 0
        · rw [if_pos h3] at he; cases he
        · rw [if_neg h3] at he; exact absurd he h3
  · simp only [he, if_false]
    rw [beq_eq_false_iff_ne.2 he]
    rfl

theorem take_one {L : List UInt8} {why pos : Nat} (h : (rdTake L why pos 1).2.1 = 0) : why = 0 ∧ 0 < rdLeft L why pos ∧ (rdTake L why pos 1).2.2 = pos + 1 := by
  unfold rdTake at h ⊢
  by_cases hk : 1 ≤ rdLeft L why pos
  · rw [if_pos hk] at h ⊢
    exact ⟨h, hk, rfl⟩
  · rw [if_neg hk] at h
    unfold rdStop at h
    split at h
    · cases h
    · rename_i hw; exact absurd h hw
end Go.Proofs.Ytgiofdmedhhobaa

namespace Go.Proofs.Ytgiofdmedhhobaa
open Go.RowKit
set_option linter.unusedVariables false

/-- What the rounds of the document's Get come to. -/
def RestIs (L : List UInt8) (RR : List V × Nat × Nat) (m : Nat) (acc : List V) (e q : Nat) : Prop := (e = 0 ∧ RR = rdLoop L m acc 0 q) ∨ (e ≠ 0 ∧ RR = ([], e, q))

end Go.Proofs.Ytgiofdmedhhobaa
