/-
  Texts that belong together: An argument of type Value, opened and shut again; the order and the sameness of values. Words for memory: a slice of structs (k cells an element) that reads as a list, and what keeps it; rows of Values and lists of columns. The order of values, and what is put and got: plain facts. Rows as lists of Values: what is valid, the order, what is written: plain facts. Sets of rows: plain facts on lists that are ordered by their rows. Nothing of the program's functions is named here. Own rows of Values (what a call appends to), put and got: plain facts and the law of append. The contracts of package row. Chapter 7 in plain words: tokens, trees, what is open, what is read. Package sexp: the sorts of bytes, and how many at the beginning are of one sort. The document's own Right and Less (chapter 4). The contracts of row.Put, count and Get. The document's own Put and Get (chapter 5). The document's own Get (chapter 5).
-/
import Derived.Test.YthpiobkghfdkkaaGreatRows
import Derived.Lib.SmallJoins
import Derived.ProofKit
import Derived.OpenShut
import Derived.Test.YthpiobkghfdkkaaGreatZ7O
import Derived.BigQuiet
import Derived.Deep.QuietTactic
import Derived.Test.YthpiobkghfdkkaaGreatZ2O
import Derived.Maps.AppendAt
import Derived.WalkMore
import Derived.Test.YthpiobkghfdkkaaGreatZ5O
namespace Go.Proofs.YthpiobkghfdkkaaGreat
open Go.RowKit Go.WideShapes Go.ChangeShapes
set_option linter.unusedVariables false

section
variable {H : Type} {enc : TypeId × Value → H} {w : World} {base : Nat} {sp : Nat → Bool} {held : Bool}
end

/-- Two values are the same. -/
def sameV (k n : Int) (s : ByteArray) (k' n' : Int) (s' : ByteArray) : Bool := k == k' && (n == n' && s.toList == s'.toList)
theorem eqGuard_val (op : BinOp) (x y : Operand) (xs ys : Array Value) (w : World) : (eqGuard op 32 x y (.agg xs) (.agg ys)).run Tryz.prog w = .ok () w := run_eqGuard_agg w op 32 x y xs ys (by kernel_rfl)
theorem run_eq_val (k n : Int) (s : ByteArray) (k' n' : Int) (s' : ByteArray) (w : World) :
    (binOp .eql 32 (vv k n s) (vv k' n' s')).run Tryz.prog w = .ok (.bool (sameV k n s k' n' s')) w := by
  rw [run_eql_struct, run_equalIn_agg w 9999 32 _ _ (by kernel_rfl) (by kernel_rfl)]
  simp only [Program.fieldsOf, Tryz.underlying32]
  unfold sameV
  by_cases h1 : k = k'
  · by_cases h2 : n = n'
    · by_cases h3 : s.toList = s'.toList
      · simp [Op.eqFields, go_sem, h1, h2, h3]
      · simp [Op.eqFields, go_sem, h1, h2, h3]
    · simp [Op.eqFields, go_sem, h1, h2]
  · simp [Op.eqFields, go_sem, h1]
theorem run_neq_val (k n : Int) (s : ByteArray) (k' n' : Int) (s' : ByteArray) (w : World) :
    (binOp .neq 32 (vv k n s) (vv k' n' s')).run Tryz.prog w = .ok (.bool (!sameV k n s k' n' s')) w := by
  have h := run_eq_val k n s k' n' s' w
  rw [run_eql_struct] at h
  rw [run_neq_struct]
  cases hr : (Op.equalIn 10000 32 (vv k n s) (vv k' n' s')).run Tryz.prog w with
  | ok b w' =>
    rw [hr] at h
    simp only [Result.andThen_ok, Result.ok.injEq, Value.bool.injEq] at h ⊢
    exact ⟨by rw [h.1], h.2⟩
  | halt x w' =>
    rw [hr] at h
    cases h
theorem toList_inj {s t : ByteArray} (h : s.toList = t.toList) : s = t := by
  obtain ⟨⟨x⟩⟩ := s
  obtain ⟨⟨y⟩⟩ := t
  simpa using h
theorem sameV_iff {k n : Int} {s : ByteArray} {k' n' : Int} {s' : ByteArray} : sameV k n s k' n' s' = true ↔ k = k' ∧ n = n' ∧ s = s' := by
  unfold sameV
  constructor
  · intro h
    simp only [Bool.and_eq_true, beq_iff_eq] at h
    exact ⟨h.1, h.2.1, toList_inj h.2.2⟩
  · rintro ⟨rfl, rfl, rfl⟩
    simp
/-- In a region that draws: a Value is loaded out of its box; two are held against one another. -/
theorem run_load_val {ρ : Operand → Value} {o : Oper} {x : Operand} {g : Nat} {k n : Int} {s : ByteArray} {w : World} (ho : o.op = .load 32 x) (hx : ρ x = .pointer (some ⟨g, 0, none⟩)) (hB : Boxed g k n s w) :
    (execOp ρ o).run Tryz.prog w = .ok (.value (vv k n s)) w := by
  have h := run_loadVar_row w g 32 32 _ (0, 0) _ hB.blk Tryz.underlying32 rfl Tryz.sizeVal
  unfold execOp
  rw [ho]
  simp only [hx, Instr.loadAt, Instr.sureAddr, Sem.run_bind, Sem.run_pure, Result.andThen_ok, h]
theorem op_eq_val {ρ : Operand → Value} {o : Oper} {x y : Operand} {k n : Int} {s : ByteArray} {k' n' : Int} {s' : ByteArray} {w : World} (ho : o.op = .binOp .eql 32 x y 32) (hx : ρ x = vv k n s) (hy : ρ y = vv k' n' s') :
    (execOp ρ o).run Tryz.prog w = .ok (.value (.bool (sameV k n s k' n' s'))) w := by
  have h1 := run_eq_val k n s k' n' s' w
  have h2 := eqGuard_val .eql x y #[.int .i64 k, .int .i64 n, .string s] #[.int .i64 k', .int .i64 n', .string s'] w
  unfold execOp
  rw [ho]
  simp only [hx, hy, Sem.run_bind, h1, h2, Result.andThen_ok, Sem.run_pure]
theorem op_neq_val {ρ : Operand → Value} {o : Oper} {x y : Operand} {k n : Int} {s : ByteArray} {k' n' : Int} {s' : ByteArray} {w : World} (ho : o.op = .binOp .neq 32 x y 32) (hx : ρ x = vv k n s) (hy : ρ y = vv k' n' s') :
    (execOp ρ o).run Tryz.prog w = .ok (.value (.bool (!sameV k n s k' n' s'))) w := by
  have h1 := run_neq_val k n s k' n' s' w
  have h2 := eqGuard_val .neq x y #[.int .i64 k, .int .i64 n, .string s] #[.int .i64 k', .int .i64 n', .string s'] w
  unfold execOp
  rw [ho]
  simp only [hx, hy, Sem.run_bind, h1, h2, Result.andThen_ok, Sem.run_pure]
end Go.Proofs.YthpiobkghfdkkaaGreat

namespace Go.Proofs.YthpiobkghfdkkaaGreat
open Go.RowKit
set_option linter.unusedVariables false

/-- The slice (A, n, cap) holds the elements l, each of k cells as enc tells. -/
structure Sl {α : Type} (k : Nat) (enc : α → List Value) (w : World) (A : Option Addr) (n cap : Nat) (l : List α) : Prop where
  len : l.length = n
  le : n ≤ cap
  max : cap ≤ 9223372036854775807
  nil : A = none → n = 0 ∧ cap = 0
  rd : 0 < n → ∃ b off, A = some ⟨b, off, none⟩ ∧ b < w.heap.size ∧ ∀ i x, l[i]? = some x → ∀ j u, (enc x)[j]? = some u → w.cell? ⟨b, off + i * k + j, none⟩ = some u

section
variable {α : Type} {k : Nat} {enc : α → List Value} {w w' : World} {A : Option Addr} {n cap : Nat} {l : List α}
theorem Sl.below (h : Sl k enc w A n cap l) (hb : Below w.heap.size w w') : Sl k enc w' A n cap l :=
  ⟨h.len, h.le, h.max, h.nil, fun hn => by
    obtain ⟨b, off, e, hlt, hc⟩ := h.rd hn
    exact ⟨b, off, e, Nat.lt_of_lt_of_le hlt hb.size, fun i x hx j u hu => (hb.cell (p := ⟨b, off + i * k + j, none⟩) hlt).trans (hc i x hx j u hu)⟩⟩
theorem Sl.ev (h : Sl k enc w A n cap l) (hb : Ev w w') : Sl k enc w' A n cap l := h.below hb
theorem Sl.but {K : List Nat} (h : Sl k enc w A n cap l) (hb : But K w w') (hA : ∀ ad, A = some ad → ad.block ∉ K) : Sl k enc w' A n cap l :=
  ⟨h.len, h.le, h.max, h.nil, fun hn => by
    obtain ⟨b, off, e, hlt, hc⟩ := h.rd hn
    refine ⟨b, off, e, Nat.lt_of_lt_of_le hlt hb.size, fun i x hx j u hu => ?_⟩
    rw [World.cell?_of_block (w := w) (hb.block b hlt (hA _ e))]
    exact hc i x hx j u hu⟩
theorem Sl.nil_ (w : World) : Sl k enc w none 0 0 ([] : List α) := ⟨rfl, Nat.le_refl _, by omega, fun _ => ⟨rfl, rfl⟩, fun h => absurd h (by omega)⟩
/-- 'b[:m]'. -/
theorem Sl.to (h : Sl k enc w A n cap l) (m : Nat) (hm : m ≤ n) : Sl k enc w A m cap (l.take m) :=
  ⟨by rw [List.length_take, h.len]; omega, Nat.le_trans hm h.le, h.max, fun e => by have := h.nil e; omega, fun h0 => by
    obtain ⟨b, off, e, hlt, hc⟩ := h.rd (by omega)
    refine ⟨b, off, e, hlt, fun i x hx j u hu => hc i x ?_ j u hu⟩
    rw [List.getElem?_take] at hx
    split at hx
    · exact hx
    · cases hx⟩
theorem Sl.at (h : Sl k enc w A n cap l) {i : Nat} (hi : i < n) : ∃ x, l[i]? = some x := ⟨_, List.getElem?_eq_getElem (by rw [h.len]; exact hi)⟩
end

/-- A Value; a column. -/
abbrev V := Int × Int × ByteArray
abbrev C := ByteArray × Int
def vcells (x : V) : List Value := [.int .i64 x.1, .int .i64 x.2.1, .string x.2.2]
def ccells (x : C) : List Value := [.string x.1, .int .i64 x.2]
/-- The slice holds the Values l; the columns l. -/
abbrev Vs := Sl 3 vcells
abbrev Cs := Sl 2 ccells

/-- Element i of a row: its three cells. -/
theorem Sl.vcell {w : World} {A : Option Addr} {n cap : Nat} {l : List V} (h : Vs w A n cap l) {i : Nat} (hi : i < n) :
    ∃ b off x, A = some ⟨b, off, none⟩ ∧ b < w.heap.size ∧ l[i]? = some x ∧ w.cell? ⟨b, off + i * 3, none⟩ = some (.int .i64 x.1) ∧ w.cell? ⟨b, off + i * 3 + 1, none⟩ = some (.int .i64 x.2.1) ∧ w.cell? ⟨b, off + i * 3 + 2, none⟩ = some (.string x.2.2) := by
  obtain ⟨x, hx⟩ := h.at hi
  obtain ⟨b, off, e, hlt, hc⟩ := h.rd (by omega)
  exact ⟨b, off, x, e, hlt, hx, hc i x hx 0 _ rfl, hc i x hx 1 _ rfl, hc i x hx 2 _ rfl⟩
theorem Sl.ccell {w : World} {A : Option Addr} {n cap : Nat} {l : List C} (h : Cs w A n cap l) {i : Nat} (hi : i < n) :
    ∃ b off x, A = some ⟨b, off, none⟩ ∧ b < w.heap.size ∧ l[i]? = some x ∧ w.cell? ⟨b, off + i * 2, none⟩ = some (.string x.1) ∧ w.cell? ⟨b, off + i * 2 + 1, none⟩ = some (.int .i64 x.2) := by
  obtain ⟨x, hx⟩ := h.at hi
  obtain ⟨b, off, e, hlt, hc⟩ := h.rd (by omega)
  exact ⟨b, off, x, e, hlt, hx, hc i x hx 0 _ rfl, hc i x hx 1 _ rfl⟩

/-- Values are held against one another: in a region, in a quiet one. -/
theorem sameV_dec (x y : V) : sameV x.1 x.2.1 x.2.2 y.1 y.2.1 y.2.2 = decide (x = y) := by
  rw [Bool.eq_iff_iff, sameV_iff, decide_eq_true_iff]
  constructor
  · rintro ⟨h1, h2, h3⟩; exact Prod.ext h1 (Prod.ext h2 h3)
  · rintro rfl; exact ⟨rfl, rfl, rfl⟩
theorem quiet_eq_val {C_ : World → Prop} {K : Act → Prop} {a : Act} {o : Oper} {x y : Operand} {k n : Int} {s : ByteArray} {k' n' : Int} {s' : ByteArray} (ho : o.op = .binOp .eql 32 x y 32) (hx : a.eval x = vv k n s) (hy : a.eval y = vv k' n' s')
    (hk : K (a.put o.dst (.bool (sameV k n s k' n' s')))) : o.quiet Tryz.prog a C_ K :=
  ⟨_, fun w _ => by unfold Oper.quietAt; rw [op_eq_val ho hx hy]; exact ⟨rfl, rfl⟩, hk⟩
theorem quiet_neq_val {C_ : World → Prop} {K : Act → Prop} {a : Act} {o : Oper} {x y : Operand} {k n : Int} {s : ByteArray} {k' n' : Int} {s' : ByteArray} (ho : o.op = .binOp .neq 32 x y 32) (hx : a.eval x = vv k n s) (hy : a.eval y = vv k' n' s')
    (hk : K (a.put o.dst (.bool (!sameV k n s k' n' s')))) : o.quiet Tryz.prog a C_ K :=
  ⟨_, fun w _ => by unfold Oper.quietAt; rw [op_neq_val ho hx hy]; exact ⟨rfl, rfl⟩, hk⟩
/-- A Value is loaded out of an element. -/
theorem run_load_elem {ρ : Operand → Value} {o : Oper} {x : Operand} {b off : Nat} {k n : Int} {s : ByteArray} {w : World} (ho : o.op = .load 32 x) (hx : ρ x = .pointer (some ⟨b, off, none⟩))
    (c0 : w.cell? ⟨b, off, none⟩ = some (.int .i64 k)) (c1 : w.cell? ⟨b, off + 1, none⟩ = some (.int .i64 n)) (c2 : w.cell? ⟨b, off + 2, none⟩ = some (.string s)) :
    (execOp ρ o).run Tryz.prog w = .ok (.value (vv k n s)) w := by
  unfold execOp
  rw [ho]
  simp [hx, go_sem, c0, c1, c2]
end Go.Proofs.YthpiobkghfdkkaaGreat

namespace Go.Proofs.YthpiobkghfdkkaaGreat
open Go.RowKit
set_option linter.unusedVariables false

theorem bl_irrefl : ∀ x : List UInt8, Op.bytesLess x x = false
  | [] => rfl
  | a :: x => by simp [Op.bytesLess, bl_irrefl x]
theorem bl_tri : ∀ x y : List UInt8, x ≠ y → Op.bytesLess x y = !Op.bytesLess y x
  | [], [], h => absurd rfl h
  | [], _ :: _, _ => rfl
  | _ :: _, [], _ => rfl
  | a :: x, b :: y, h => by
    by_cases hab : a = b
    · subst hab
      have h2 : x ≠ y := fun e => h (by rw [e])
      simp [Op.bytesLess, bl_tri x y h2]
    · have hn : a.toNat ≠ b.toNat := fun e => hab (UInt8.toNat_inj.1 e)
      have hba : ¬ b = a := fun e => hab e.symm
      by_cases hlt : a < b
      · have h3 : ¬ b < a := by rw [UInt8.lt_iff_toNat_lt] at hlt ⊢; omega
        simp [Op.bytesLess, hlt, h3, hba]
      · have h3 : b < a := by rw [UInt8.lt_iff_toNat_lt] at hlt ⊢; omega
        simp [Op.bytesLess, hlt, h3, hab]
theorem bl_trans : ∀ x y z : List UInt8, Op.bytesLess x y = true → Op.bytesLess y z = true → Op.bytesLess x z = true
  | [], [], _, h, _ => by cases h
  | [], _ :: _, [], _, h => by cases h
  | [], _ :: _, _ :: _, _, _ => rfl
  | _ :: _, [], _, h, _ => by cases h
  | _ :: _, _ :: _, [], _, h => by cases h
  | a :: x, b :: y, c :: z, h1, h2 => by
    simp only [Op.bytesLess, Bool.or_eq_true, Bool.and_eq_true, decide_eq_true_eq, beq_iff_eq] at h1 h2 ⊢
    rcases h1 with h1 | ⟨rfl, h1⟩
    · rcases h2 with h2 | ⟨rfl, h2⟩
      · left; rw [UInt8.lt_iff_toNat_lt] at h1 h2 ⊢; omega
      · exact .inl h1
    · rcases h2 with h2 | ⟨rfl, h2⟩
      · exact .inl h2
      · exact .inr ⟨rfl, bl_trans x y z h1 h2⟩

theorem right_kind {k n : Int} {s : ByteArray} (h : rightV k n s = true) : (k = 1 ∧ s = ⟨#[]⟩) ∨ (k = 2 ∧ n = 0 ∧ s.size ≤ 40) := by
  unfold rightV at h
  split at h
  · rename_i h1
    obtain ⟨⟨l⟩⟩ := s
    have : l = [] := by simpa using h
    subst this
    exact .inl ⟨h1, rfl⟩
  · split at h
    · rename_i h1
      simp at h
      exact .inr ⟨h1, h.1, h.2⟩
    · cases h
theorem less_tri {k n : Int} {s : ByteArray} {k' n' : Int} {s' : ByteArray} (h : rightV k n s = true) (h' : rightV k' n' s' = true) :
    (lessV k n s k' n' s' != lessV k' n' s' k n s) = !sameV k n s k' n' s' := by
  have key : (sameV k n s k' n' s' = true → lessV k n s k' n' s' = lessV k' n' s' k n s) ∧ (sameV k n s k' n' s' = false → lessV k n s k' n' s' = !lessV k' n' s' k n s) := by
    constructor
    · intro e
      obtain ⟨rfl, rfl, rfl⟩ := sameV_iff.1 e
      rfl
    · intro e
      have hne : ¬ (k = k' ∧ n = n' ∧ s = s') := fun c => by rw [sameV_iff.2 c] at e; cases e
      unfold lessV
      rw [h, h']
      simp only [Bool.and_self, if_pos]
      rcases right_kind h with ⟨rfl, rfl⟩ | ⟨rfl, rfl, _⟩
      · rcases right_kind h' with ⟨rfl, rfl⟩ | ⟨rfl, rfl, _⟩
        · have hn : n ≠ n' := fun c => hne ⟨rfl, c, rfl⟩
          have hd : decide (n < n') = !decide (n' < n) := by
            by_cases a : n < n'
            · have b : ¬ n' < n := by omega
              simp [a, b]
            · have b : n' < n := by omega
              simp [a, b]
          simp only [if_true]
          exact hd
        · simp
      · rcases right_kind h' with ⟨rfl, rfl⟩ | ⟨rfl, rfl, _⟩
        · simp
        · have hs : s.toList ≠ s'.toList := fun c => hne ⟨rfl, rfl, toList_inj c⟩
          simp [bl_tri _ _ hs]
  cases hsm : sameV k n s k' n' s'
  · rw [key.2 hsm]; cases lessV k' n' s' k n s <;> rfl
  · rw [key.1 hsm]; cases lessV k' n' s' k n s <;> rfl
theorem less_trans {k n : Int} {s : ByteArray} {k' n' : Int} {s' : ByteArray} {k2 n2 : Int} {s2 : ByteArray} (h1 : lessV k n s k' n' s' = true) (h2 : lessV k' n' s' k2 n2 s2 = true) : lessV k n s k2 n2 s2 = true := by
  unfold lessV at h1 h2 ⊢
  split at h1
  · rename_i hr1
    split at h2
    · rename_i hr2
      simp only [Bool.and_eq_true] at hr1 hr2
      rw [hr1.1, hr2.2]
      simp only [Bool.and_self, if_pos]
      rcases right_kind hr1.1 with ⟨rfl, rfl⟩ | ⟨rfl, rfl, _⟩
      · rcases right_kind hr1.2 with ⟨rfl, rfl⟩ | ⟨rfl, rfl, _⟩
        · rcases right_kind hr2.2 with ⟨rfl, rfl⟩ | ⟨rfl, rfl, _⟩
          · simp at h1 h2 ⊢; omega
          · simp
        · rcases right_kind hr2.2 with ⟨rfl, rfl⟩ | ⟨rfl, rfl, _⟩
          · simp at h2
          · simp
      · rcases right_kind hr1.2 with ⟨rfl, rfl⟩ | ⟨rfl, rfl, _⟩
        · simp at h1
        · rcases right_kind hr2.2 with ⟨rfl, rfl⟩ | ⟨rfl, rfl, _⟩
          · simp at h2
          · simp at h1 h2 ⊢; exact bl_trans _ _ _ h1 h2
    · cases h2
  · cases h1

end Go.Proofs.YthpiobkghfdkkaaGreat

namespace Go.Proofs.YthpiobkghfdkkaaGreat
open Go.RowKit
set_option linter.unusedVariables false

/-- P5.2: all values are valid; the row is. -/
abbrev rightVV (x : V) : Bool := rightV x.1 x.2.1 x.2.2
abbrev lessVV (x y : V) : Bool := lessV x.1 x.2.1 x.2.2 y.1 y.2.1 y.2.2
def okR (l : List V) : Bool := l.all fun x => rightVV x
def rightR (l : List V) : Bool := (decide (1 ≤ l.length) && decide (l.length ≤ 6)) && okR l
theorem okR_take {l : List V} {k : Nat} {x : V} (hx : l[k]? = some x) : okR (l.take (k + 1)) = (okR (l.take k) && rightVV x) := by
  obtain ⟨hk, rfl⟩ := List.getElem?_eq_some_iff.1 hx
  unfold okR
  rw [List.take_succ_eq_append_getElem hk, List.all_append]
  simp
theorem okR_not {l : List V} {k : Nat} {x : V} (hx : l[k]? = some x) (hr : rightVV x = false) : okR l = false := by
  unfold okR
  rw [List.all_eq_false]
  exact ⟨x, List.mem_of_getElem? hx, by simp [hr]⟩
theorem okR_at {l : List V} {k : Nat} {x : V} (h : okR l = true) (hx : l[k]? = some x) : rightVV x = true := List.all_eq_true.1 h x (List.mem_of_getElem? hx)
theorem rightR_ok {l : List V} (h : rightR l = true) : okR l = true := by unfold rightR at h; simp only [Bool.and_eq_true] at h; exact h.2
theorem rightR_len {l : List V} (h : rightR l = true) : 1 ≤ l.length ∧ l.length ≤ 6 := by unfold rightR at h; simp only [Bool.and_eq_true, decide_eq_true_eq] at h; exact h.1

theorem take_step {α : Type} {a b : List α} {k : Nat} {x : α} (h : a.take k = b.take k) (hx : a[k]? = some x) (hy : b[k]? = some x) : a.take (k + 1) = b.take (k + 1) := by
  obtain ⟨ha, rfl⟩ := List.getElem?_eq_some_iff.1 hx
  obtain ⟨hb, e⟩ := List.getElem?_eq_some_iff.1 hy
  rw [List.take_succ_eq_append_getElem ha, List.take_succ_eq_append_getElem hb, h, e]

/-- P5.2: the order of rows. -/
def lessL : List V → List V → Bool
  | _, [] => false
  | [], _ :: _ => true
  | x :: a, y :: b => if x = y then lessL a b else lessVV x y
def lessR (a b : List V) : Bool := if rightR a && rightR b then lessL a b else false
theorem lessVV_self (x : V) : lessVV x x = false := by
  unfold lessVV lessV
  split
  · simp [bl_irrefl]
  · rfl
theorem lessVV_tri {x y : V} (h : rightVV x = true) (h' : rightVV y = true) (hne : x ≠ y) : lessVV x y = !lessVV y x := by
  have := less_tri h h'
  have hs : sameV x.1 x.2.1 x.2.2 y.1 y.2.1 y.2.2 = false := by
    cases hc : sameV x.1 x.2.1 x.2.2 y.1 y.2.1 y.2.2
    · rfl
    · obtain ⟨h1, h2, h3⟩ := sameV_iff.1 hc
      exact absurd (Prod.ext h1 (Prod.ext h2 h3)) hne
  rw [hs] at this
  unfold lessVV
  revert this
  generalize lessV x.1 x.2.1 x.2.2 y.1 y.2.1 y.2.2 = p
  generalize lessV y.1 y.2.1 y.2.2 x.1 x.2.1 x.2.2 = q
  revert p q
  decide
theorem lessVV_trans {x y z : V} (h1 : lessVV x y = true) (h2 : lessVV y z = true) : lessVV x z = true := less_trans h1 h2
theorem lessVV_ne {x y : V} (h : lessVV x y = true) : x ≠ y := by rintro rfl; rw [lessVV_self] at h; cases h
theorem lessL_self : ∀ a : List V, lessL a a = false
  | [] => rfl
  | x :: a => by simp [lessL, lessL_self a]
theorem okR_cons {x : V} {a : List V} (h : okR (x :: a) = true) : rightVV x = true ∧ okR a = true := by unfold okR at h ⊢; simpa using h
theorem lessL_tri : ∀ a b : List V, okR a = true → okR b = true → a ≠ b → lessL a b = !lessL b a
  | [], [], _, _, h => absurd rfl h
  | [], _ :: _, _, _, _ => rfl
  | _ :: _, [], _, _, _ => rfl
  | x :: a, y :: b, h, h', hne => by
    unfold lessL
    by_cases e : x = y
    · subst e
      simp only [if_true]
      exact lessL_tri a b (okR_cons h).2 (okR_cons h').2 (fun c => hne (by rw [c]))
    · rw [if_neg e, if_neg (fun c => e c.symm)]
      exact lessVV_tri (okR_cons h).1 (okR_cons h').1 e
theorem lessL_trans : ∀ a b c : List V, lessL a b = true → lessL b c = true → lessL a c = true
  | _, [], _, h, _ => by simp [lessL] at h
  | _, _ :: _, [], _, h => by simp [lessL] at h
  | [], _ :: _, _ :: _, _, _ => rfl
  | x :: a, y :: b, z :: c, h1, h2 => by
    unfold lessL at h1 h2 ⊢
    by_cases e1 : x = y
    · subst e1
      rw [if_pos rfl] at h1
      by_cases e2 : x = z
      · subst e2
        rw [if_pos rfl] at h2 ⊢
        exact lessL_trans a b c h1 h2
      · rw [if_neg e2] at h2 ⊢
        exact h2
    · rw [if_neg e1] at h1
      by_cases e2 : y = z
      · subst e2
        rw [if_neg e1]
        exact h1
      · rw [if_neg e2] at h2
        have h3 := lessVV_trans h1 h2
        rw [if_neg (lessVV_ne h3)]
        exact h3
theorem lessL_common : ∀ (k : Nat) (a b : List V), a.take k = b.take k → k ≤ a.length → k ≤ b.length → lessL a b = lessL (a.drop k) (b.drop k)
  | 0, _, _, _, _, _ => rfl
  | k + 1, [], _, _, h, _ => by simp at h
  | k + 1, _ :: _, [], _, _, h => by simp at h
  | k + 1, x :: a, y :: b, h, h1, h2 => by
    simp only [List.take_succ_cons, List.cons.injEq] at h
    obtain ⟨rfl, h⟩ := h
    simp only [List.length_cons, Nat.add_le_add_iff_right] at h1 h2
    simp only [lessL, if_true, List.drop_succ_cons]
    exact lessL_common k a b h h1 h2
theorem drop_of_get {α : Type} {a : List α} {k : Nat} {x : α} (h : a[k]? = some x) : a.drop k = x :: a.drop (k + 1) := by
  obtain ⟨hk, rfl⟩ := List.getElem?_eq_some_iff.1 h
  exact List.drop_eq_getElem_cons hk
theorem lessL_at {k : Nat} {a b : List V} {x y : V} (h : a.take k = b.take k) (hx : a[k]? = some x) (hy : b[k]? = some y) (hne : x ≠ y) : lessL a b = lessVV x y := by
  rw [lessL_common k a b h (Nat.le_of_lt (List.getElem?_eq_some_iff.1 hx).1) (Nat.le_of_lt (List.getElem?_eq_some_iff.1 hy).1), drop_of_get hx, drop_of_get hy]
  simp [lessL, hne]
theorem lessL_end {k : Nat} {a b : List V} (h : a.take k = b.take k) (h1 : k ≤ a.length) (h2 : k ≤ b.length) (he : k = a.length ∨ k = b.length) : lessL a b = decide (a.length < b.length) := by
  rw [lessL_common k a b h h1 h2]
  by_cases hb : k = b.length
  · have h3 : b.drop k = [] := List.drop_eq_nil_of_le (by omega)
    rw [h3]
    have : ¬ a.length < b.length := by omega
    simp [lessL, this]
  · have ha : k = a.length := he.resolve_right hb
    have h3 : a.drop k = [] := List.drop_eq_nil_of_le (by omega)
    have h4 : k < b.length := by omega
    rw [h3, List.drop_eq_getElem_cons h4]
    have : a.length < b.length := by omega
    simp [lessL, this]
theorem eq_end {α : Type} {k : Nat} {a b : List α} (h : a.take k = b.take k) (h1 : k = a.length) (h2 : k = b.length) : a = b := by
  rwa [List.take_of_length_le (by omega), List.take_of_length_le (by omega)] at h
theorem ne_at {α : Type} {k : Nat} {a b : List α} {x y : α} (hx : a[k]? = some x) (hy : b[k]? = some y) (hne : x ≠ y) : a ≠ b := by
  rintro rfl
  exact hne (Option.some.inj (hx.symm.trans hy))

/-- P5.2: the same. -/
def eqL (a b : List V) : Bool := decide (a = b)
def sameR (a b : List V) : Bool := rightR a && eqL a b
theorem sameR_less {a b : List V} : sameR a b = (rightR a && rightR b && !lessL a b && !lessL b a) := by
  unfold sameR eqL
  by_cases e : a = b
  · subst e
    simp [lessL_self]
  · simp only [decide_eq_false e, Bool.and_false]
    cases ha : rightR a
    · rfl
    · cases hb : rightR b
      · rfl
      · have := lessL_tri a b (rightR_ok ha) (rightR_ok hb) e
        rw [this]
        cases lessL b a <;> rfl

/-- P5.2: each value is of its column's Kind. -/
def fitsL : List C → List V → Bool
  | [], [] => true
  | c :: l, x :: r => (rightVV x && x.1 == c.2) && fitsL l r
  | _, _ => false
theorem fitsL_len : ∀ (l : List C) (r : List V), fitsL l r = true → l.length = r.length
  | [], [], _ => rfl
  | [], _ :: _, h => by cases h
  | _ :: _, [], h => by cases h
  | c :: l, x :: r, h => by
    simp only [fitsL, Bool.and_eq_true] at h
    simp [fitsL_len l r h.2]
theorem fitsL_ne {l : List C} {r : List V} (h : l.length ≠ r.length) : fitsL l r = false := by
  cases hf : fitsL l r
  · rfl
  · exact absurd (fitsL_len l r hf) h
theorem fitsL_step : ∀ (k : Nat) (l : List C) (r : List V) (c : C) (x : V), fitsL (l.take k) (r.take k) = true → l[k]? = some c → r[k]? = some x → rightVV x = true → x.1 = c.2 → fitsL (l.take (k + 1)) (r.take (k + 1)) = true
  | 0, [], _, _, _, _, h, _, _, _ => by cases h
  | 0, _ :: _, [], _, _, _, _, h, _, _ => by cases h
  | 0, c :: l, x :: r, _, _, _, h1, h2, hr, hk => by
    simp at h1 h2
    subst h1; subst h2
    simp [fitsL, hr, hk]
  | k + 1, [], _, _, _, _, h, _, _, _ => by cases h
  | k + 1, _ :: _, [], _, _, _, _, h, _, _ => by cases h
  | k + 1, c :: l, x :: r, c', x', h, h1, h2, hr, hk => by
    rw [List.take_succ_cons, List.take_succ_cons] at h ⊢
    simp only [fitsL, Bool.and_eq_true] at h ⊢
    exact ⟨h.1, fitsL_step k l r c' x' h.2 (by simpa using h1) (by simpa using h2) hr hk⟩
theorem fitsL_not : ∀ (k : Nat) (l : List C) (r : List V) (c : C) (x : V), l[k]? = some c → r[k]? = some x → (rightVV x = false ∨ x.1 ≠ c.2) → fitsL l r = false
  | _, [], _, _, _, h, _, _ => by simp at h
  | _, _ :: _, [], _, _, _, h, _ => by simp at h
  | 0, c :: l, x :: r, _, _, h1, h2, h => by
    simp at h1 h2
    subst h1; subst h2
    rcases h with h | h
    · simp [fitsL, h]
    · simp [fitsL, h]
  | k + 1, c :: l, x :: r, c', x', h1, h2, h => by
    simp only [fitsL]
    rw [fitsL_not k l r c' x' (by simpa using h1) (by simpa using h2) h]
    simp
/-- P5.1: names. -/
def words : List (List UInt8) := [[116, 97, 98, 108, 101], [102, 105, 108, 116, 101, 114], [112, 114, 111, 106, 101, 99, 116], [106, 111, 105, 110], [117, 110, 105, 111, 110], [100, 105, 115, 116, 105, 110, 99, 116], [103, 114, 111, 117, 112], [99, 111, 117, 110, 116], [115, 117, 109], [109, 105, 110], [109, 97, 120], [97, 100, 100], [115, 117, 98], [109, 117, 108], [110, 101, 103], [101, 113], [108, 116], [97, 110, 100], [111, 114], [110, 111, 116], [99, 97, 116], [108, 101, 110], [105, 102]]
def letterB (c : UInt8) : Bool := decide (97 ≤ c.toNat) && decide (c.toNat ≤ 122)
def nameV (s : ByteArray) : Bool := (decide (1 ≤ s.size) && decide (s.size ≤ 12)) && (s.data.toList.all letterB && !words.contains s.data.toList)
/-- P5.1: where a column of this name stands first. -/
def named (s : ByteArray) (c : C) : Bool := c.1.toList == s.toList
def findC (l : List C) (s : ByteArray) : Option Nat := l.findIdx? (named s)
theorem findC_some {l : List C} {s : ByteArray} {k : Nat} {c : C} (hT : ∀ i c, i < k → l[i]? = some c → named s c = false) (hc : l[k]? = some c) (h : named s c = true) : findC l s = some k := by
  unfold findC
  rw [List.findIdx?_eq_some_iff_getElem]
  obtain ⟨hk, rfl⟩ := List.getElem?_eq_some_iff.1 hc
  exact ⟨hk, h, fun j hj => by simp [hT j _ hj (List.getElem?_eq_getElem (by omega))]⟩
theorem findC_none {l : List C} {s : ByteArray} (hT : ∀ i c, i < l.length → l[i]? = some c → named s c = false) : findC l s = none := by
  unfold findC
  rw [List.findIdx?_eq_none_iff]
  intro c hc
  obtain ⟨i, hi, rfl⟩ := List.getElem_of_mem hc
  exact hT i _ hi (List.getElem?_eq_getElem hi)
def foundAt (o : Option Nat) : Int := match o with | some k => (k : Int) | none => 0
/-- P5.1: the first error of columns. -/
def colsFrom (pre : List C) : List C → Int
  | [] => 0
  | c :: r => if (nameV c.1 && (c.2 == 1 || c.2 == 2)) = false then 20 else if (findC pre c.1).isSome = true then 21 else colsFrom (pre ++ [c]) r
def colsV (l : List C) : Int := if (decide (1 ≤ l.length) && decide (l.length ≤ 6)) = true then colsFrom [] l else 23
theorem colsFrom_at {l : List C} {k : Nat} {c : C} (hc : l[k]? = some c) : colsFrom (l.take k) (l.drop k) =
    if (nameV c.1 && (c.2 == 1 || c.2 == 2)) = false then 20 else if (findC (l.take k) c.1).isSome = true then 21 else colsFrom (l.take (k + 1)) (l.drop (k + 1)) := by
  have ht : l.take (k + 1) = l.take k ++ [c] := by
    obtain ⟨hk, rfl⟩ := List.getElem?_eq_some_iff.1 hc
    rw [List.take_succ_eq_append_getElem hk]
  rw [drop_of_get hc, ht]
  rfl
end Go.Proofs.YthpiobkghfdkkaaGreat

namespace Go.Proofs.YthpiobkghfdkkaaGreat
open Go.RowKit
set_option linter.unusedVariables false

theorem lessR_right {a b : List V} (h : lessR a b = true) : rightR a = true ∧ rightR b = true := by
  unfold lessR at h
  split at h
  · rename_i h1; simpa using h1
  · cases h
theorem lessR_of {a b : List V} (ha : rightR a = true) (hb : rightR b = true) : lessR a b = lessL a b := by
  unfold lessR; rw [ha, hb]; rfl
theorem lessR_self (a : List V) : lessR a a = false := by
  unfold lessR; split
  · exact lessL_self a
  · rfl
theorem lessR_tri {a b : List V} (ha : rightR a = true) (hb : rightR b = true) (hne : a ≠ b) : lessR a b = !lessR b a := by
  rw [lessR_of ha hb, lessR_of hb ha]
  exact lessL_tri a b (rightR_ok ha) (rightR_ok hb) hne
theorem lessR_trans {a b c : List V} (h1 : lessR a b = true) (h2 : lessR b c = true) : lessR a c = true := by
  have r1 := lessR_right h1
  have r2 := lessR_right h2
  rw [lessR_of r1.1 r1.2] at h1
  rw [lessR_of r2.1 r2.2] at h2
  rw [lessR_of r1.1 r2.2]
  exact lessL_trans a b c h1 h2
/-- Not less, one behind the other. -/
theorem nless_trans {a b c : List V} (ha : rightR a = true) (hb : rightR b = true) (hc : rightR c = true) (h1 : lessR b a = false) (h2 : lessR c b = false) : lessR c a = false := by
  cases h : lessR c a
  · rfl
  · by_cases hab : a = b
    · subst hab; rw [h] at h2; cases h2
    · have h3 := lessR_tri ha hb hab
      rw [h1] at h3
      have := lessR_trans h h3
      rw [h2] at this; cases this
theorem nless_anti {a b : List V} (ha : rightR a = true) (hb : rightR b = true) (h1 : lessR b a = false) (h2 : lessR a b = false) : a = b := by
  by_cases hab : a = b
  · exact hab
  · have h3 := lessR_tri ha hb hab
    rw [h1, h2] at h3; cases h3

section
variable {α : Type} (key : α → List V)

/-- The rows rise, or stand still. -/
def Rises (l : List α) : Prop := l.Pairwise fun x y => lessR (key y) (key x) = false
def AllRight (l : List α) : Prop := ∀ x ∈ l, rightR (key x) = true
def atRow (r : List V) (l : List α) : List α := l.filter fun x => decide (key x = r)
/-- The same items of each row, in the same order. -/
def Alike (l m : List α) : Prop := ∀ r, atRow key r l = atRow key r m

variable {key}
theorem Alike.refl (l : List α) : Alike key l l := fun _ => rfl
theorem Alike.trans {l m n : List α} (h : Alike key l m) (k : Alike key m n) : Alike key l n := fun r => (h r).trans (k r)
theorem Alike.symm {l m : List α} (h : Alike key l m) : Alike key m l := fun r => (h r).symm
theorem atRow_append (r : List V) (l m : List α) : atRow key r (l ++ m) = atRow key r l ++ atRow key r m := List.filter_append _ _
theorem Alike.mem {l m : List α} (h : Alike key l m) {x : α} (hx : x ∈ l) : x ∈ m := by
  have h1 : x ∈ atRow key (key x) l := List.mem_filter.2 ⟨hx, by simp⟩
  rw [h (key x)] at h1
  exact (List.mem_filter.1 h1).1
theorem Alike.right {l m : List α} (h : Alike key l m) (hr : AllRight key l) : AllRight key m := fun x hx => hr x (h.symm.mem hx)
theorem AllRight.take {l : List α} (h : AllRight key l) (k : Nat) : AllRight key (l.take k) := fun x hx => h x (List.mem_of_mem_take hx)
theorem AllRight.drop {l : List α} (h : AllRight key l) (k : Nat) : AllRight key (l.drop k) := fun x hx => h x (List.mem_of_mem_drop hx)
theorem Alike.length {l m : List α} (h : Alike key l m) : l.length = m.length := by
  induction l generalizing m with
  | nil =>
    cases m with
    | nil => rfl
    | cons y m => exact absurd (h.symm.mem (List.mem_cons_self (a := y))) (by simp)
  | cons x l ih =>
    obtain ⟨p, q, hp, rfl⟩ : ∃ p q, atRow key (key x) p = [] ∧ m = p ++ x :: q := by
      have h1 := h (key x)
      have e1 : atRow key (key x) (x :: l) = x :: atRow key (key x) l := by simp [atRow]
      rw [e1] at h1
      clear h ih e1
      induction m with
      | nil => simp [atRow] at h1
      | cons y m ihm =>
        by_cases hy : key y = key x
        · have e2 : atRow key (key x) (y :: m) = y :: atRow key (key x) m := by simp [atRow, hy]
          rw [e2] at h1
          obtain ⟨rfl, _⟩ := List.cons.inj h1
          exact ⟨[], m, rfl, rfl⟩
        · have e2 : atRow key (key x) (y :: m) = atRow key (key x) m := by simp [atRow, hy]
          rw [e2] at h1
          obtain ⟨p, q, hp, rfl⟩ := ihm h1
          exact ⟨y :: p, q, by simpa [atRow, hy] using hp, rfl⟩
    have hh : Alike key l (p ++ q) := fun r => by
      have h1 := h r
      rw [atRow_append]
      rw [atRow_append] at h1
      by_cases hr : key x = r
      · subst hr
        rw [hp] at h1 ⊢
        have e1 : ∀ z, atRow key (key x) (x :: z) = x :: atRow key (key x) z := fun z => by simp [atRow]
        rw [e1, e1, List.nil_append] at h1
        rw [List.nil_append]
        exact (List.cons.inj h1).2
      · have e1 : ∀ z, atRow key r (x :: z) = atRow key r z := fun z => by simp [atRow, hr]
        rw [e1, e1] at h1
        exact h1
    have := ih hh
    simp only [List.length_append, List.length_cons] at this ⊢
    omega

/-- So many items at the beginning are in order. -/
structure IsRun (key : α → List V) (l : List α) (k : Nat) : Prop where
  le : k ≤ l.length
  pos : 0 < l.length → 1 ≤ k
  up : ∀ i x y, l[i]? = some x → l[i + 1]? = some y → i + 1 < k → lessR (key y) (key x) = false
  ends : ∀ x y, l[k - 1]? = some x → l[k]? = some y → lessR (key y) (key x) = true

theorem rises_up {l : List α} (hr : AllRight key l) (h : ∀ i x y, l[i]? = some x → l[i + 1]? = some y → lessR (key y) (key x) = false) : Rises key l := by
  induction l with
  | nil => exact List.Pairwise.nil
  | cons a l ih =>
    have ihl := ih (fun x hx => hr x (List.mem_cons_of_mem _ hx)) (fun i x y hx hy => h (i + 1) x y (by simpa using hx) (by simpa using hy))
    refine List.Pairwise.cons (fun z hz => ?_) ihl
    cases l with
    | nil => cases hz
    | cons b l =>
      have h1 := h 0 a b rfl rfl
      rcases List.mem_cons.1 hz with rfl | hz
      · exact h1
      · have h2 := (List.pairwise_cons.1 ihl).1 z hz
        exact nless_trans (hr a (by simp)) (hr b (by simp)) (hr z (by simp [hz])) h1 h2
theorem Rises.step {l : List α} (h : Rises key l) {i j : Nat} {x y : α} (hx : l[i]? = some x) (hy : l[j]? = some y) (hij : i < j) : lessR (key y) (key x) = false := by
  obtain ⟨hi, rfl⟩ := List.getElem?_eq_some_iff.1 hx
  obtain ⟨hj, rfl⟩ := List.getElem?_eq_some_iff.1 hy
  exact List.pairwise_iff_getElem.1 h i j hi hj hij
theorem IsRun.rises {l : List α} {k : Nat} (h : IsRun key l k) (hr : AllRight key l) : Rises key (l.take k) := by
  refine rises_up (hr.take k) fun i x y hx hy => ?_
  rw [List.getElem?_take] at hx hy
  split at hy
  · rename_i h1
    rw [if_pos (by omega)] at hx
    exact h.up i x y hx hy h1
  · cases hy
theorem IsRun.whole {l : List α} {k : Nat} (h : IsRun key l k) (hs : Rises key l) : k = l.length := by
  by_cases hk : k < l.length
  · have h1 := h.pos (by omega)
    have := h.ends _ _ (List.getElem?_eq_getElem (i := k - 1) (by omega)) (List.getElem?_eq_getElem hk)
    rw [hs.step (List.getElem?_eq_getElem (i := k - 1) (by omega)) (List.getElem?_eq_getElem hk) (by omega)] at this
    cases this
  · have := h.le; omega

/-- l is made of at most p lists that rise. -/
def Pieces (key : α → List V) (p : Nat) (l : List α) : Prop := ∃ ls : List (List α), ls.flatten = l ∧ ls.length ≤ p ∧ ∀ s ∈ ls, Rises key s
theorem Pieces.singles (l : List α) : Pieces key l.length l :=
  ⟨l.map fun x => [x], by induction l with | nil => rfl | cons x l ih => simp [ih], by simp, fun s hs => by
    obtain ⟨x, _, rfl⟩ := List.mem_map.1 hs
    exact List.pairwise_singleton _ _⟩
theorem Pieces.mono {p q : Nat} {l : List α} (h : Pieces key p l) (hpq : p ≤ q) : Pieces key q l := by
  obtain ⟨ls, h1, h2, h3⟩ := h
  exact ⟨ls, h1, by omega, h3⟩
theorem Pieces.nil_ : Pieces key 0 ([] : List α) := ⟨[], rfl, Nat.le_refl _, fun _ h => by cases h⟩
theorem Pieces.none {l : List α} (h : Pieces key 0 l) : l = [] := by
  obtain ⟨ls, rfl, h2, _⟩ := h
  rw [List.eq_nil_of_length_eq_zero (by omega : ls.length = 0)]; rfl
theorem Pieces.one {l : List α} (h : Pieces key 1 l) : Rises key l := by
  obtain ⟨ls, rfl, h2, h3⟩ := h
  match ls, h2, h3 with
  | [], _, _ => exact List.Pairwise.nil
  | [s], _, h3 => simpa using h3 s (by simp)
  | _ :: _ :: _, h2, _ => simp at h2
theorem Pieces.drop_ (ls : List (List α)) : ∀ j, (∀ s ∈ ls, Rises key s) → ∃ ls' : List (List α), ls'.flatten = ls.flatten.drop j ∧ ls'.length ≤ ls.length ∧ ∀ s ∈ ls', Rises key s := by
  induction ls with
  | nil => exact fun j _ => ⟨[], by simp, Nat.le_refl _, fun _ h => by cases h⟩
  | cons s ls ih =>
    intro j h
    by_cases hj : j ≤ s.length
    · refine ⟨s.drop j :: ls, ?_, by simp, fun t ht => ?_⟩
      · simp only [List.flatten_cons]
        rw [List.drop_append_of_le_length hj]
      · rcases List.mem_cons.1 ht with rfl | ht
        · exact (h s (by simp)).drop
        · exact h t (by simp [ht])
    · obtain ⟨ls', h1, h2, h3⟩ := ih (j - s.length) fun t ht => h t (by simp [ht])
      refine ⟨ls', ?_, by simp; omega, h3⟩
      have e : s.drop j = [] := List.drop_of_length_le (by omega)
      rw [h1, List.flatten_cons, List.drop_append, e, List.nil_append]
theorem Pieces.run {q k : Nat} {l : List α} (h : Pieces key (q + 1) l) (hk : IsRun key l k) : Pieces key q (l.drop k) := by
  obtain ⟨ls, rfl, h2, h3⟩ := h
  cases ls with
  | nil => exact ⟨[], by simp, by simp, fun _ h => by cases h⟩
  | cons s ls =>
    have hs := h3 s (by simp)
    have hle : s.length ≤ k := by
      by_cases hc : k < s.length
      · exfalso
        have hl : k < (s :: ls).flatten.length := by simp; omega
        have h1 := hk.pos (by omega)
        have e1 : (s :: ls).flatten[k - 1]? = s[k - 1]? := by rw [List.flatten_cons, List.getElem?_append_left (by omega)]
        have e2 : (s :: ls).flatten[k]? = s[k]? := by rw [List.flatten_cons, List.getElem?_append_left (by omega)]
        have h4 := hk.ends _ _ (e1.trans (List.getElem?_eq_getElem (by omega))) (e2.trans (List.getElem?_eq_getElem hc))
        rw [hs.step (List.getElem?_eq_getElem (i := k - 1) (by omega)) (List.getElem?_eq_getElem hc) (by omega)] at h4
        cases h4
      · omega
    obtain ⟨ls', g1, g2, g3⟩ := Pieces.drop_ ls (k - s.length) fun t ht => h3 t (by simp [ht])
    refine ⟨ls', ?_, by simp at h2; omega, g3⟩
    have e : s.drop k = [] := List.drop_of_length_le hle
    rw [g1, List.flatten_cons, List.drop_append, e, List.nil_append]
theorem Pieces.snoc {p : Nat} {l s : List α} (h : Pieces key p l) (hs : Rises key s) : Pieces key (p + 1) (l ++ s) := by
  obtain ⟨ls, rfl, h2, h3⟩ := h
  refine ⟨ls ++ [s], by simp, by simp; omega, fun t ht => ?_⟩
  rcases List.mem_append.1 ht with ht | ht
  · exact h3 t ht
  · rw [List.mem_singleton.1 ht]; exact hs

variable (key)
/-- Two lists made one, by their rows; of one row those of the first come first. -/
def mergeF : List α → List α → List α
  | [], b => b
  | x :: a, [] => x :: a
  | x :: a, y :: b => if lessR (key y) (key x) then y :: mergeF (x :: a) b else x :: mergeF a (y :: b)
termination_by a b => a.length + b.length
variable {key}
theorem mergeF_nil (b : List α) : mergeF key [] b = b := by rw [mergeF]
theorem mergeF_nil' (a : List α) : mergeF key a [] = a := by cases a <;> rw [mergeF]
theorem mergeF_mem (a b : List α) : ∀ z, z ∈ mergeF key a b ↔ z ∈ a ∨ z ∈ b := by
  induction a, b using mergeF.induct (key := key) with
  | case1 b => intro z; rw [mergeF]; simp
  | case2 x a => intro z; rw [mergeF]; simp
  | case3 x a y b h ih => intro z; rw [mergeF, if_pos h, List.mem_cons, ih]; simp only [List.mem_cons]; exact or_left_comm
  | case4 x a y b h ih => intro z; rw [mergeF, if_neg h, List.mem_cons, ih]; simp only [List.mem_cons]; exact or_assoc.symm
theorem mergeF_length (a b : List α) : (mergeF key a b).length = a.length + b.length := by
  induction a, b using mergeF.induct (key := key) with
  | case1 b => rw [mergeF]; simp
  | case2 x a => rw [mergeF]; simp
  | case3 x a y b h ih => rw [mergeF, if_pos h, List.length_cons, ih]; simp only [List.length_cons]; omega
  | case4 x a y b h ih => rw [mergeF, if_neg h, List.length_cons, ih]; simp only [List.length_cons]; omega
theorem mergeF_rises (a b : List α) (hra : AllRight key a) (hrb : AllRight key b) (ha : Rises key a) (hb : Rises key b) : Rises key (mergeF key a b) := by
  induction a, b using mergeF.induct (key := key) with
  | case1 b => rw [mergeF]; exact hb
  | case2 x a => rw [mergeF]; exact ha
  | case3 x a y b h ih =>
    rw [mergeF, if_pos h]
    have hb' := List.pairwise_cons.1 hb
    have ha' := List.pairwise_cons.1 ha
    have hyx : lessR (key x) (key y) = false := by
      have := lessR_tri (hrb y (by simp)) (hra x (by simp)) (fun e => by rw [e, lessR_self] at h; cases h)
      rw [h] at this
      simpa using this
    refine List.Pairwise.cons (fun z hz => ?_) (ih hra (fun z hz => hrb z (by simp [hz])) ha hb'.2)
    rcases (mergeF_mem _ _ z).1 hz with hz | hz
    · rcases List.mem_cons.1 hz with rfl | hz
      · exact hyx
      · exact nless_trans (hrb y (by simp)) (hra x (by simp)) (hra z (by simp [hz])) hyx (ha'.1 z hz)
    · exact hb'.1 z hz
  | case4 x a y b h ih =>
    rw [mergeF, if_neg h]
    have hb' := List.pairwise_cons.1 hb
    have ha' := List.pairwise_cons.1 ha
    have hxy : lessR (key y) (key x) = false := by simpa using h
    refine List.Pairwise.cons (fun z hz => ?_) (ih (fun z hz => hra z (by simp [hz])) hrb ha'.2 hb)
    rcases (mergeF_mem _ _ z).1 hz with hz | hz
    · exact ha'.1 z hz
    · rcases List.mem_cons.1 hz with rfl | hz
      · exact hxy
      · exact nless_trans (hra x (by simp)) (hrb y (by simp)) (hrb z (by simp [hz])) hxy (hb'.1 z hz)
theorem mergeF_atRow (a b : List α) (hra : AllRight key a) (hrb : AllRight key b) (ha : Rises key a) (r : List V) : atRow key r (mergeF key a b) = atRow key r a ++ atRow key r b := by
  induction a, b using mergeF.induct (key := key) with
  | case1 b => rw [mergeF]; rfl
  | case2 x a => rw [mergeF]; simp [atRow]
  | case3 x a y b h ih =>
    rw [mergeF, if_pos h]
    have ih' := ih hra (fun z hz => hrb z (by simp [hz])) ha
    by_cases hy : key y = r
    · have hno : atRow key r (x :: a) = [] := by
        apply List.filter_eq_nil_iff.2
        intro z hz hzr
        have hzr : key z = r := by simpa using hzr
        have hxy := h
        rw [hy, ← hzr] at hxy
        rcases List.mem_cons.1 hz with rfl | hz'
        · rw [lessR_self] at hxy; cases hxy
        · rw [(List.pairwise_cons.1 ha).1 z hz'] at hxy; cases hxy
      have e : ∀ t, atRow key r (y :: t) = y :: atRow key r t := fun t => by simp [atRow, hy]
      rw [e, e, ih', hno]; rfl
    · have e : ∀ t, atRow key r (y :: t) = atRow key r t := fun t => by simp [atRow, hy]
      rw [e, e, ih']
  | case4 x a y b h ih =>
    rw [mergeF, if_neg h]
    have ih' := ih (fun z hz => hra z (by simp [hz])) hrb (List.pairwise_cons.1 ha).2
    by_cases hx : key x = r
    · have e : ∀ t, atRow key r (x :: t) = x :: atRow key r t := fun t => by simp [atRow, hx]
      rw [e, e, ih']; rfl
    · have e : ∀ t, atRow key r (x :: t) = atRow key r t := fun t => by simp [atRow, hx]
      rw [e, e, ih']

/-- Lists that rise and have the same items of each row are one. -/
theorem rises_same {l m : List α} (hr : AllRight key l) (hl : Rises key l) (hm : Rises key m) (h : Alike key l m) : l = m := by
  induction l generalizing m with
  | nil =>
    have := h.length
    exact (List.eq_nil_of_length_eq_zero (by simpa using this.symm)).symm
  | cons x l ih =>
    cases m with
    | nil => have := h.length; simp at this
    | cons y m =>
      have hrm := h.right hr
      have h1 : lessR (key x) (key y) = false := by
        rcases List.mem_cons.1 (h.mem (List.mem_cons_self (a := x) (l := l))) with e | hx
        · rw [e]; exact lessR_self _
        · exact (List.pairwise_cons.1 hm).1 x hx
      have h2 : lessR (key y) (key x) = false := by
        rcases List.mem_cons.1 (h.symm.mem (List.mem_cons_self (a := y) (l := m))) with e | hy
        · rw [e]; exact lessR_self _
        · exact (List.pairwise_cons.1 hl).1 y hy
      have hk := nless_anti (hr x (by simp)) (hrm y (by simp)) h2 h1
      have e1 : ∀ t, atRow key (key x) (x :: t) = x :: atRow key (key x) t := fun t => by simp [atRow]
      have e2 : ∀ t, atRow key (key x) (y :: t) = y :: atRow key (key x) t := fun t => by simp [atRow, hk]
      have h3 := h (key x)
      rw [e1, e2] at h3
      obtain ⟨rfl, h4⟩ := List.cons.inj h3
      congr 1
      refine ih (fun z hz => hr z (by simp [hz])) (List.pairwise_cons.1 hl).2 (List.pairwise_cons.1 hm).2 fun r => ?_
      by_cases hxr : key x = r
      · subst hxr; exact h4
      · have h5 := h r
        have e3 : ∀ t, atRow key r (x :: t) = atRow key r t := fun t => by simp [atRow, hxr]
        rwa [e3, e3] at h5

variable (key)
/-- Items put in order, those of one row as they came. -/
def insF (x : α) : List α → List α
  | [] => [x]
  | y :: l => if lessR (key y) (key x) then y :: insF x l else x :: y :: l
def sortF : List α → List α
  | [] => []
  | x :: l => insF key x (sortF l)
variable {key}
theorem insF_mem (x : α) (l : List α) : ∀ z, z ∈ insF key x l ↔ z = x ∨ z ∈ l := by
  induction l with
  | nil => intro z; simp [insF]
  | cons y l ih =>
    intro z
    unfold insF
    split
    · rw [List.mem_cons, ih]; simp only [List.mem_cons]; exact or_left_comm
    · exact List.mem_cons
theorem insF_rises {x : α} {l : List α} (hx : rightR (key x) = true) (hr : AllRight key l) (hl : Rises key l) : Rises key (insF key x l) := by
  induction l with
  | nil => exact List.pairwise_singleton _ _
  | cons y l ih =>
    have hl' := List.pairwise_cons.1 hl
    unfold insF
    split
    · rename_i h
      refine List.Pairwise.cons (fun z hz => ?_) (ih (fun z hz => hr z (by simp [hz])) hl'.2)
      rcases (insF_mem x l z).1 hz with rfl | hz
      · have := lessR_tri (hr y (by simp)) hx (fun e => by rw [e, lessR_self] at h; cases h)
        rw [h] at this
        simpa using this
      · exact hl'.1 z hz
    · rename_i h
      have h : lessR (key y) (key x) = false := by simpa using h
      refine List.Pairwise.cons (fun z hz => ?_) hl
      rcases List.mem_cons.1 hz with rfl | hz
      · exact h
      · exact nless_trans hx (hr y (by simp)) (hr z (by simp [hz])) h (hl'.1 z hz)
theorem insF_atRow (x : α) (l : List α) (r : List V) : atRow key r (insF key x l) = atRow key r (x :: l) := by
  induction l with
  | nil => rfl
  | cons y l ih =>
    unfold insF
    split
    · rename_i h
      have hne : ¬ (key y = r ∧ key x = r) := fun ⟨h1, h2⟩ => by rw [h1, h2, lessR_self] at h; cases h
      have c : ∀ (z : α) (t : List α), atRow key r (z :: t) = if key z = r then z :: atRow key r t else atRow key r t := fun z t => by
        unfold atRow; rw [List.filter_cons]; simp
      rw [c, ih, c, c, c]
      by_cases h1 : key y = r
      · by_cases h2 : key x = r
        · exact absurd ⟨h1, h2⟩ hne
        · simp [h1, h2]
      · simp [h1]
    · rfl
theorem sortF_right {l : List α} (hr : AllRight key l) : AllRight key (sortF key l) := by
  induction l with
  | nil => exact hr
  | cons x l ih =>
    intro z hz
    rcases (insF_mem x _ z).1 hz with rfl | hz
    · exact hr _ (by simp)
    · exact ih (fun z hz => hr z (by simp [hz])) z hz
theorem sortF_rises {l : List α} (hr : AllRight key l) : Rises key (sortF key l) := by
  induction l with
  | nil => exact List.Pairwise.nil
  | cons x l ih =>
    have hr' : AllRight key l := fun z hz => hr z (by simp [hz])
    exact insF_rises (hr x (by simp)) (sortF_right hr') (ih hr')
theorem sortF_alike (l : List α) : Alike key (sortF key l) l := by
  induction l with
  | nil => exact Alike.refl _
  | cons x l ih =>
    intro r
    have c : ∀ (z : α) (t : List α), atRow key r (z :: t) = if key z = r then z :: atRow key r t else atRow key r t := fun z t => by
      unfold atRow; rw [List.filter_cons]; simp
    show atRow key r (insF key x (sortF key l)) = _
    rw [insF_atRow, c, c, ih r]
theorem sortF_only {l m : List α} (hr : AllRight key l) (hm : Rises key m) (h : Alike key m l) : m = sortF key l :=
  (rises_same (sortF_right hr) (sortF_rises hr) hm ((sortF_alike l).trans h.symm)).symm
theorem atRow_map {β : Type} (f : α → β) (key' : β → List V) (l : List α) (r : List V) : atRow key' r (l.map f) = (atRow (fun x => key' (f x)) r l).map f := by
  unfold atRow
  rw [List.filter_map]
  rfl
theorem Alike.map {β : Type} (f : α → β) {key' : β → List V} {l m : List α} (h : Alike (fun x => key' (f x)) l m) : Alike key' (l.map f) (m.map f) := fun r => by
  rw [atRow_map, atRow_map, h r]
theorem Rises.map {β : Type} (f : α → β) {key' : β → List V} {l : List α} (h : Rises (fun x => key' (f x)) l) : Rises key' (l.map f) := by
  unfold Rises at h ⊢
  rw [List.pairwise_map]
  exact h
end
end Go.Proofs.YthpiobkghfdkkaaGreat

namespace Go.Proofs.YthpiobkghfdkkaaGreat
open Go.RowKit
set_option linter.unusedVariables false

def vlist (l : List V) : List Value := l.flatMap vcells
theorem vlist_length (l : List V) : (vlist l).length = l.length * 3 := by
  induction l with
  | nil => rfl
  | cons x l ih =>
    have : (vlist (x :: l)).length = 3 + (vlist l).length := by simp [vlist, vcells]; omega
    rw [this, ih, List.length_cons]; omega
theorem vlist_append (l m : List V) : vlist (l ++ m) = vlist l ++ vlist m := by simp [vlist]
theorem vlist_get : ∀ (l : List V) (i : Nat) (x : V), l[i]? = some x → ∀ j u, (vcells x)[j]? = some u → (vlist l)[i * 3 + j]? = some u
  | [], _, _, h, _, _, _ => by simp at h
  | y :: l, 0, x, h, j, u, hu => by
    simp at h
    subst h
    have hj : j < 3 := (List.getElem?_eq_some_iff.1 hu).1
    have e : vlist (y :: l) = vcells y ++ vlist l := rfl
    rw [e, Nat.zero_mul, Nat.zero_add, List.getElem?_append_left (by simpa [vcells] using hj)]
    exact hu
  | y :: l, i + 1, x, h, j, u, hu => by
    have e : vlist (y :: l) = vcells y ++ vlist l := rfl
    have hl : (vcells y).length = 3 := rfl
    rw [e, List.getElem?_append_right (by rw [hl]; omega), hl, show (i + 1) * 3 + j - 3 = i * 3 + j by omega]
    exact vlist_get l i x (by simpa using h) j u hu
theorem vlist_back : ∀ (l : List V) (q : Nat) (u : Value), (vlist l)[q]? = some u → ∃ x, l[q / 3]? = some x ∧ (vcells x)[q % 3]? = some u
  | [], q, u, h => by simp [vlist] at h
  | y :: l, q, u, h => by
    have e : vlist (y :: l) = vcells y ++ vlist l := rfl
    have hl : (vcells y).length = 3 := rfl
    rw [e] at h
    by_cases hq : q < 3
    · rw [List.getElem?_append_left (by rw [hl]; exact hq)] at h
      refine ⟨y, by rw [Nat.div_eq_of_lt hq]; rfl, ?_⟩
      rw [Nat.mod_eq_of_lt hq]
      exact h
    · rw [List.getElem?_append_right (by rw [hl]; omega), hl] at h
      obtain ⟨x, h1, h2⟩ := vlist_back l (q - 3) u h
      refine ⟨x, ?_, ?_⟩
      · rw [show q / 3 = (q - 3) / 3 + 1 by omega]
        simpa using h1
      · rw [show q % 3 = (q - 3) % 3 by omega]
        exact h2
theorem vlist_one (l : List V) : ∀ u ∈ vlist l, u.oneCell' = true := by
  intro u hu
  obtain ⟨x, _, hx⟩ := List.mem_flatMap.1 hu
  simp [vcells] at hx
  rcases hx with rfl | rfl | rfl <;> rfl

/-- v is a slice that holds l, in a row of its own or nowhere. -/
def Vrow (w : World) (v : Value) (l : List V) : Prop := w.ownsRow 0 32 3 v l.length (vlist l)
theorem Vrow.nil_ (w : World) : Vrow w (.slice none 0 0) [] := World.ownsRow_nil _ _ _ _
theorem Vrow.of {w : World} {base n : Nat} {v : Value} {l : List V} (h : w.ownsRow base 32 3 v n (vlist l)) : Vrow w v l := by
  have hn : l.length = n := by have := h.1; rw [vlist_length] at this; omega
  subst hn
  refine ⟨h.1, ?_⟩
  rcases h.2 with h2 | ⟨g, cap, cur, hv, hg, r⟩
  · exact .inl h2
  · exact .inr ⟨g, cap, cur, hv, Nat.zero_le _, r⟩
theorem Vrow.but {K : List Nat} {w w' : World} {v : Value} {l : List V} (h : Vrow w v l) (hb : But K w w') (hn : ∀ g, v.ownBlock = some g → g ∉ K) : Vrow w' v l := by
  refine ⟨h.1, ?_⟩
  rcases h.2 with h2 | ⟨g, cap, cur, rfl, hg, hh, r⟩
  · exact .inl h2
  · exact .inr ⟨g, cap, cur, rfl, hg, hb.heap hh (hn g rfl), r⟩
theorem Vrow.ev {w w' : World} {v : Value} {l : List V} (h : Vrow w v l) (hb : Ev w w') : Vrow w' v l := h.but (But.of_ev (K := []) hb) (fun _ _ => by simp)
theorem Vrow.lt {w : World} {v : Value} {l : List V} (h : Vrow w v l) {g : Nat} (hg : v.ownBlock = some g) : g < w.heap.size := (World.ownsRow.lt (show w.ownsRow _ _ _ _ _ _ from h) g hg).2
theorem Vrow.vs {w : World} {v : Value} {l : List V} (h : Vrow w v l) : ∃ A cap, v = .slice A l.length cap ∧ Vs w A l.length cap l ∧ (∀ ad, A = some ad → v.ownBlock = some ad.block) := by
  rcases h.2 with ⟨rfl, hn⟩ | ⟨g, cap, cur, rfl, hb, hg, hnc, hcm, hcs, ht⟩
  · have hl : l = [] := List.eq_nil_of_length_eq_zero hn
    subst hl
    exact ⟨none, 0, rfl, Sl.nil_ w, by simp⟩
  · refine ⟨_, _, rfl, ⟨rfl, hnc, by simpa [maxLen] using hcm, by simp, fun h0 => ⟨g, 0, rfl, (Array.getElem?_eq_some_iff.1 hg).1, fun i x hx j u hu => ?_⟩⟩, by rintro ad ⟨⟩; rfl⟩
    have hi := (List.getElem?_eq_some_iff.1 hx).1
    have hj : j < 3 := (List.getElem?_eq_some_iff.1 hu).1
    have := World.ownsRow.cellAt (show w.ownsRow 0 32 3 (.slice (some ⟨g, 0, none⟩) l.length cap) l.length (vlist l) from h) (i * 3 + j) (by omega)
    rw [Nat.zero_add, this]
    exact vlist_get l i x hx j u hu
theorem Vrow.form {w : World} {v : Value} {l : List V} (h : Vrow w v l) : ∃ A n cap, v = .slice A n cap := by
  obtain ⟨A, cap, rfl, _⟩ := h.vs
  exact ⟨_, _, _, rfl⟩
/-- A literal of one Value. -/
theorem Vs.made_one (w : World) (k n : Int) (s : ByteArray) : Vs (w.alloc (.cells #[.int .i64 k, .int .i64 n, .string s] 32)) (some ⟨w.heap.size, 0, none⟩) 1 1 [(k, n, s)] :=
  ⟨rfl, Nat.le_refl _, by omega, by simp, fun _ => ⟨w.heap.size, 0, rfl, by simp, fun i x hx j u hu => by
    have hi : i = 0 := by have := (List.getElem?_eq_some_iff.1 hx).1; simp at this; omega
    subst hi
    simp at hx
    subst hx
    rw [Lib.cell_of_heap (heap_alloc_new w _)]
    simpa [vcells] using hu⟩⟩

/-- append of Values onto a row of the call's own. -/
theorem run_append_vals {P : Program} {w : World} (ty : TypeId)
    (ht : P.underlying 23 = some (.slice 32)) (hi : (P.info? 32).map (fun i => (i.zero, i.size, i.bytes)) = some (some (.agg #[.int .i64 0, .int .i64 0, .string ⟨#[]⟩]), 3, 32))
    (v : Value) (xs : List V) (hown : Vrow w v xs) (A : Option Addr) (m c : Nat) (l : List V) (hB : Vs w A m c l) (hbytes : (xs.length + l.length) * 32 ≤ 140737488355328) :
    ∃ v' w', (Builtin.append_ #[23, 23] ty #[v, .slice A m c]).run P w = .ok v' w' ∧ Vrow w' v' (xs ++ l) ∧ But (foot v) w w' ∧ Sprung w v v' := by
  obtain ⟨i, hi0, hz, hsz, hby⟩ := info_parts hi
  have hl := hB.len
  cases A with
  | none =>
    obtain ⟨h0, h1⟩ := hB.nil rfl
    subst h0; subst h1
    have hnil : l = [] := List.eq_nil_of_length_eq_zero hl
    subst hnil
    exact ⟨v, w, run_append_owned_none (P := P) (w := w) 0 23 ty 32 i 3 ht hi0 v _ _ hown, by simpa using hown, But.refl _ _, Sprung.refl _ _⟩
  | some ad =>
    have hcells : ∀ j u, (vlist l)[j]? = some u → w.cell? (ad.add j) = some u := by
      intro q u hu
      obtain ⟨x, hx, hxu⟩ := vlist_back l q u hu
      have hq := (List.getElem?_eq_some_iff.1 hx).1
      obtain ⟨b, off, e, _, hc⟩ := hB.rd (by omega)
      obtain rfl := Option.some.inj e
      have := hc (q / 3) x hx (q % 3) u hxu
      rw [Addr.add_lit]
      rwa [show off + q / 3 * 3 + q % 3 = off + q by omega] at this
    obtain ⟨v', w', hr, h1, h2, _, h4⟩ := run_append_own_at (P := P) w 0 23 ty 32 i _ 3 32 ht hi0 hz hsz hby rfl (by decide) v xs.length (vlist xs) hown ad m c (vlist l) (by rw [vlist_length, hl]) hcells (vlist_one l) (by unfold maxLen; omega) (by rw [← hl]; exact hbytes) (Nat.zero_le _)
    refine ⟨v', w', hr, Vrow.of (base := 0) (n := xs.length + m) (by rw [vlist_append]; exact h1), But.grown h2 (fun g hg => mem_foot.2 hg), fun g hg => ?_⟩
    rcases h4 with h4 | h4
    · exact .inl (h4 ▸ hg)
    · rw [h4] at hg; simp at hg; exact .inr (by omega)

theorem wpList_append_vals {P : Program} {w : World} {ops : Array Oper} {rest : List Oper} {o : Oper} {a : Act} {Q : Exit → Act → World → Prop} (hgd : o.guard = none) (s x : Operand)
    (ho : o.op = .call { callee := .builtin .append, args := #[s, x], argTypes := #[23, 23] })
    (ht : P.underlying 23 = some (.slice 32)) (hi : (P.info? 32).map (fun i => (i.zero, i.size, i.bytes)) = some (some (.agg #[.int .i64 0, .int .i64 0, .string ⟨#[]⟩]), 3, 32))
    (v : Value) (xs : List V) (hs : a.eval s = v) (hown : Vrow w v xs) (A : Option Addr) (m c : Nat) (l : List V) (hx : a.eval x = .slice A m c) (hB : Vs w A m c l) (hbytes : (xs.length + l.length) * 32 ≤ 140737488355328)
    (h : ∀ v' w', Vrow w' v' (xs ++ l) → But (foot v) w w' → Sprung w v v' → wpList P ops Q rest (a.put o.dst v') w') : wpList P ops Q (o :: rest) a w := by
  refine wpList_plain hgd fun K hK => ?_
  obtain ⟨v', w', hr, h2, h3, h4⟩ := run_append_vals (P := P) (w := w) o.type ht hi v xs hown A m c l hB hbytes
  unfold Oper.wp execOp
  simp only [ho, resolve, invoke, builtin, Sem.run_bind, Sem.run_pure, Result.andThen_ok, List.map_toArray, List.map_cons, List.map_nil, hs, hx, hr]
  exact hK _ _ (h v' w' h2 h3 h4)
theorem Tryz.infoVal : (Tryz.prog.info? 32).map (fun i => (i.zero, i.size, i.bytes)) = some (some (.agg #[.int .i64 0, .int .i64 0, .string ⟨#[]⟩]), 3, 32) := by kernel_rfl

end Go.Proofs.YthpiobkghfdkkaaGreat

namespace Go.Proofs.YthpiobkghfdkkaaGreat
open Go.RowKit
set_option linter.unusedVariables false

set_option maxRecDepth 100000 in
theorem row_isCount (n : Nat) (w : World) (hn : n < 9223372036854775808) :
    Calls Tryz.prog 103 #[.int .i64 (n : Int)] w fun e w' => e = .returned (.bool (decide (1 ≤ n) && decide (n ≤ 6))) ∧ w = w' := by
  go_enter Tryz.func103, Tryz.ntmps103
  by_cases h1 : 1 ≤ n
  · have i1 : (1 : Int) ≤ (n : Int) := by omega
    have e : (decide (1 ≤ n) && decide (n ≤ 6)) = decide ((n : Int) ≤ 6) := by rw [decide_eq_true h1, Bool.true_and]; exact decide_eq_decide.2 (by omega)
    rw [e]
    go_wp2
    go_ret
    exact ⟨rfl, rfl⟩
  · have i1 : ¬ (1 : Int) ≤ (n : Int) := by omega
    rw [show (decide (1 ≤ n) && decide (n ≤ 6)) = false by rw [decide_eq_false h1]; rfl]
    go_wp2
    go_ret
    exact ⟨rfl, rfl⟩

set_option maxRecDepth 100000 in
set_option maxHeartbeats 800000 in
theorem row_right {A : Option Addr} {n cap : Nat} {l : List V} (w : World) (h : Vs w A n cap l) :
    Calls Tryz.prog 74 #[.slice A n cap] w fun e w' => e = .returned (.bool (rightR l)) ∧ Ev w w' := by
  have hn := h.le
  have hm := h.max
  have HN := Lib.hid h.len
  have HC := Lib.hid (fun w1 => row_isCount n w1 (by omega))
  have HG : Hid (rightR l = ((decide (1 ≤ n) && decide (n ≤ 6)) && okR l)) := Lib.hid (by unfold rightR; rw [HN.out])
  generalize (decide (1 ≤ n) && decide (n ≤ 6)) = c at *
  cases c
  · go_enter Tryz.func74, Tryz.ntmps74
    go_wp2_with (first | ((with_reducible refine (HC.out _).mono ?_); rintro x w1 ⟨rfl, rfl⟩))
    go_ret
    exact ⟨by rw [HG.out]; rfl, Ev.refl _⟩
  · go_enter Tryz.func74, Tryz.ntmps74
    go_wp2_with (first | ((with_reducible refine (HC.out _).mono ?_); rintro x w1 ⟨rfl, rfl⟩))
    go_loopw [11] (fun i wr => ∃ k : Nat, k ≤ n ∧ i = .int .i64 k ∧ Hid (okR (l.take k) = true) ∧ Ev w wr) (fun i _ => n - (intOf i).toNat)
    case atStart => exact ⟨0, Nat.zero_le _, rfl, Lib.hid rfl, Ev.refl _⟩
    case round =>
      obtain ⟨k, hk, rfl, HT, hE⟩ := hrel
      by_cases hlt : k < n
      · obtain ⟨b, off, x, rfl, hb, hx, c0, c1, c2⟩ := (h.ev hE).vcell hlt
        have HX := Lib.hid hx
        clear hx
        obtain ⟨xk, xn, xs⟩ := x
        simp only at c0 c1 c2
        have HV := Lib.hid (fun w1 => value_right xk xn xs w1)
        cases hr : rightV xk xn xs
        · have HF := Lib.hid (okR_not HX.out hr)
          rw [hr] at HV
          go_wp2_with (first | ((with_reducible refine (HV.out _).mono ?_); rintro x w1 ⟨rfl, hE1⟩))
          go_ret
          exact ⟨by rw [HG.out, HF.out]; rfl, (hE.trans (Ev.alloc _ _)).trans hE1⟩
        · have HF : Hid (okR (l.take (k + 1)) = true) := Lib.hid (by rw [okR_take HX.out, HT.out]; exact hr)
          rw [hr] at HV
          go_wp2_with (first | ((with_reducible refine (HV.out _).mono ?_); rintro x w1 ⟨rfl, hE1⟩))
          go_roundw
          case rel => exact ⟨k + 1, by omega, by go_num, HF, (hE.trans (Ev.alloc _ _)).trans hE1⟩
          case measure => simp [intOf]; omega
      · obtain rfl : k = n := by omega
        go_wp2
        go_ret
        refine ⟨?_, hE⟩
        have := HT.out
        rw [List.take_of_length_le (by rw [HN.out]; exact Nat.le_refl _)] at this
        rw [HG.out, this]
        rfl

set_option maxRecDepth 100000 in
set_option maxHeartbeats 1600000 in
theorem slices_equal {A B : Option Addr} {n m cap cap' : Nat} {a b : List V} (w : World) (h : Vs w A n cap a) (h' : Vs w B m cap' b) :
    Calls Tryz.prog 108 #[.slice A n cap, .slice B m cap'] w fun e w' => e = .returned (.bool (eqL a b)) ∧ Ev w w' := by
  have hn := h.le
  have hm := h.max
  have hn' := h'.le
  have hm' := h'.max
  have HL := Lib.hid h.len
  have HM := Lib.hid h'.len
  by_cases hnn : n = m
  · subst hnn
    go_enter Tryz.func108, Tryz.ntmps108
    go_wp2
    go_loopw [13] (fun i wr => ∃ k : Nat, k ≤ n ∧ i = .int .i64 k ∧ Hid (a.take k = b.take k) ∧ Ev w wr) (fun i _ => n - (intOf i).toNat)
    case atStart => exact ⟨0, Nat.zero_le _, rfl, Lib.hid (by simp), Ev.refl _⟩
    case round =>
      obtain ⟨k, hk, rfl, HT, hE⟩ := hrel
      by_cases hlt : k < n
      · obtain ⟨b1, off, ⟨xk, xn, xs⟩, rfl, hb, hx, c0, c1, c2⟩ := (h.ev hE).vcell hlt
        obtain ⟨b2, off', ⟨yk, yn, ys⟩, rfl, hb', hy, d0, d1, d2⟩ := (h'.ev hE).vcell hlt
        have i1 : (0 : Int) ≤ (k : Int) := by omega
        have i2 : (k : Int) < (n : Int) := by omega
        simp only at c0 c1 c2 d0 d1 d2
        have HX := Lib.hid hx
        have HY := Lib.hid hy
        clear hx hy h h'
        go_wp2_with fail
        refine wp_region_quiet_lit (by kernel_rfl) (by kernel_rfl) ?_
        repeat (quiet_step (fail))
        refine BigFrame.wpQuiet_want rfl fun K hK => quiet_neq_val rfl rfl rfl (hK _ ?_)
        refine wpQuiet_nil ?_
        rintro _ ⟨nq, rfl⟩
        by_cases hxy : (xk, xn, xs) = (yk, yn, ys)
        · have HT' : Hid (a.take (k + 1) = b.take (k + 1)) := Lib.hid (take_step HT.out HX.out (hxy ▸ HY.out))
          rw [(sameV_dec (xk, xn, xs) (yk, yn, ys)).trans (decide_eq_true hxy)]
          clear HX HY HT hxy
          go_wp2
          go_roundw
          case rel => exact ⟨k + 1, by omega, by go_num, HT', hE.trans (Ev.drewN _ _)⟩
          case measure => simp [intOf]; omega
        · have HF := Lib.hid (ne_at HX.out HY.out hxy)
          rw [(sameV_dec (xk, xn, xs) (yk, yn, ys)).trans (decide_eq_false hxy)]
          clear HX HY HT hxy
          go_wp2
          go_ret
          exact ⟨by rw [eqL, decide_eq_false HF.out]; rfl, hE.trans (Ev.drewN _ _)⟩
      · obtain rfl : k = n := by omega
        have HF := Lib.hid (eq_end HT.out HL.out.symm HM.out.symm)
        go_wp2
        go_ret
        exact ⟨by rw [eqL, decide_eq_true HF.out]; rfl, hE⟩
  · go_enter Tryz.func108, Tryz.ntmps108
    have hne : ¬ (n : Int) = (m : Int) := by omega
    have HF : Hid (a ≠ b) := Lib.hid (fun e => hnn (by rw [← HL.out, ← HM.out, e]))
    go_wp2
    go_ret
    exact ⟨by rw [eqL, decide_eq_false HF.out]; rfl, Ev.refl _⟩

/-- How far two rows go together. -/
structure Shares (a b : List V) (i : Nat) : Prop where
  le : i ≤ a.length
  le' : i ≤ b.length
  same : a.take i = b.take i
  differ : ∀ x y, a[i]? = some x → b[i]? = some y → x ≠ y

set_option maxRecDepth 100000 in
set_option maxHeartbeats 1600000 in
theorem row_shared {A B : Option Addr} {n m cap cap' : Nat} {a b : List V} (w : World) (h : Vs w A n cap a) (h' : Vs w B m cap' b) :
    Calls Tryz.prog 106 #[.slice A n cap, .slice B m cap'] w fun e w' => (∃ i : Nat, e = .returned (.int .i64 (i : Int)) ∧ Shares a b i) ∧ Ev w w' := by
  have hn := h.le
  have hm := h.max
  have hn' := h'.le
  have hm' := h'.max
  have HL := Lib.hid h.len
  have HM := Lib.hid h'.len
  go_enter Tryz.func106, Tryz.ntmps106
  go_wp2
  go_loopw [5] (fun i wr => ∃ k : Nat, k ≤ n ∧ k ≤ m ∧ i = .int .i64 k ∧ Hid (a.take k = b.take k) ∧ Ev w wr) (fun i _ => n - (intOf i).toNat)
  case atStart => exact ⟨0, Nat.zero_le _, Nat.zero_le _, rfl, Lib.hid (by simp), Ev.refl _⟩
  case round =>
    obtain ⟨k, hk, hk', rfl, HT, hE⟩ := hrel
    by_cases hlt : k < n
    · have i2 : (k : Int) < (n : Int) := by omega
      by_cases hlt' : k < m
      · obtain ⟨b1, off, ⟨xk, xn, xs⟩, rfl, hb, hx, c0, c1, c2⟩ := (h.ev hE).vcell hlt
        obtain ⟨b2, off', ⟨yk, yn, ys⟩, rfl, hb', hy, d0, d1, d2⟩ := (h'.ev hE).vcell hlt'
        have i1 : (0 : Int) ≤ (k : Int) := by omega
        have i3 : (k : Int) < (m : Int) := by omega
        simp only at c0 c1 c2 d0 d1 d2
        have HX := Lib.hid hx
        have HY := Lib.hid hy
        clear hx hy h h'
        go_wp2_with fail
        refine wp_region_quiet_lit (by kernel_rfl) (by kernel_rfl) ?_
        repeat (quiet_step (fail))
        refine BigFrame.wpQuiet_want rfl fun K hK => quiet_eq_val rfl rfl rfl (hK _ ?_)
        repeat (quiet_step (fail))
        refine wpQuiet_nil ?_
        rintro _ ⟨nq, rfl⟩
        by_cases hxy : (xk, xn, xs) = (yk, yn, ys)
        · have HT' : Hid (a.take (k + 1) = b.take (k + 1)) := Lib.hid (take_step HT.out HX.out (hxy ▸ HY.out))
          rw [(sameV_dec (xk, xn, xs) (yk, yn, ys)).trans (decide_eq_true hxy)]
          clear HX HY HT hxy
          go_wp2
          go_roundw
          case rel => exact ⟨k + 1, by omega, by omega, by go_num, HT', hE.trans (Ev.drewN _ _)⟩
          case measure => simp [intOf]; omega
        · have HF : Hid (Shares a b k) := Lib.hid ⟨by rw [HL.out]; exact hk, by rw [HM.out]; exact hk', HT.out, fun x y ex ey => by
            obtain rfl := Option.some.inj (HX.out.symm.trans ex)
            obtain rfl := Option.some.inj (HY.out.symm.trans ey)
            exact hxy⟩
          rw [(sameV_dec (xk, xn, xs) (yk, yn, ys)).trans (decide_eq_false hxy)]
          clear HX HY HT hxy
          go_wp2
          go_ret
          exact ⟨⟨k, rfl, HF.out⟩, hE.trans (Ev.drewN _ _)⟩
      · have i3 : ¬ (k : Int) < (m : Int) := by omega
        have HF : Hid (Shares a b k) := Lib.hid ⟨by rw [HL.out]; exact hk, by rw [HM.out]; exact hk', HT.out, fun x y ex ey => by
          have := (List.getElem?_eq_some_iff.1 ey).1
          rw [HM.out] at this
          omega⟩
        go_wp2_with fail
        go_quiet (fail)
        go_wp2
        go_ret
        exact ⟨⟨k, rfl, HF.out⟩, hE.trans (Ev.drewN _ _)⟩
    · have i2 : ¬ (k : Int) < (n : Int) := by omega
      have HF : Hid (Shares a b k) := Lib.hid ⟨by rw [HL.out]; exact hk, by rw [HM.out]; exact hk', HT.out, fun x y ex ey => by
        have := (List.getElem?_eq_some_iff.1 ex).1
        rw [HL.out] at this
        omega⟩
      go_wp2_with fail
      go_quiet (fail)
      go_wp2
      go_ret
      exact ⟨⟨k, rfl, HF.out⟩, hE.trans (Ev.drewN _ _)⟩

set_option maxRecDepth 100000 in
set_option maxHeartbeats 1600000 in
theorem row_same {A B : Option Addr} {n m cap cap' : Nat} {a b : List V} (w : World) (h : Vs w A n cap a) (h' : Vs w B m cap' b) :
    Calls Tryz.prog 77 #[.slice A n cap, .slice B m cap'] w fun e w' => e = .returned (.bool (sameR a b)) ∧ Ev w w' := by
  have HR := Lib.hid (fun w1 (h1 : Vs w1 A n cap a) => row_right w1 h1)
  have HE := Lib.hid (fun w1 (h1 : Vs w1 A n cap a) (h2 : Vs w1 B m cap' b) => slices_equal w1 h1 h2)
  unfold sameR
  generalize rightR a = r at *
  cases r
  · go_enter Tryz.func77, Tryz.ntmps77
    go_wp2_with (first | ((with_reducible refine (HR.out _ h).mono ?_); rintro x w1 ⟨rfl, hE1⟩))
    go_ret
    exact ⟨rfl, hE1⟩
  · go_enter Tryz.func77, Tryz.ntmps77
    go_wp2_with (first | ((with_reducible refine (HR.out _ h).mono ?_); rintro x w1 ⟨rfl, hE1⟩) | ((with_reducible refine (HE.out _ (h.ev hE1) (h'.ev hE1)).mono ?_); rintro x w2 ⟨rfl, hE2⟩))
    go_ret
    exact ⟨rfl, hE1.trans hE2⟩
end Go.Proofs.YthpiobkghfdkkaaGreat

namespace Go.Proofs.YthpiobkghfdkkaaGreat
open Go.RowKit
set_option linter.unusedVariables false

abbrev By := List UInt8
/-- A tree. -/
inductive T where
  | mk (kind : Int) (s : By) (n : Int) (kids : List T) (pos : Nat) : T
def sxZero : T := .mk 0 [] 0 [] 0
end Go.Proofs.YthpiobkghfdkkaaGreat

namespace Go.Proofs.YthpiobkghfdkkaaGreat
open Go.RowKit
set_option linter.unusedVariables false

end Go.Proofs.YthpiobkghfdkkaaGreat

namespace Go.Proofs.YthpiobkghfdkkaaGreat
open Go.RowKit
set_option linter.unusedVariables false

theorem empty_iff (s : ByteArray) : (s = ⟨#[]⟩) ↔ s.toList.isEmpty = true := by
  rw [List.isEmpty_iff]
  constructor
  · rintro rfl; simp
  · intro h
    exact toList_inj (by simpa using h)

set_option maxRecDepth 100000 in
set_option maxHeartbeats 1600000 in
theorem refr_right (k n : Int) (s : ByteArray) (w : World) :
    Calls Tryz.prog 79 #[vv k n s] w fun e w' => e = .returned (.bool (rightV k n s)) ∧ Ev w w' := by
  by_cases h1 : k = 1
  · subst h1
    by_cases hs : s = ⟨#[]⟩
    · subst hs
      go_enter Tryz.func79, Tryz.ntmps79
      go_wp2
      go_ret
      exact ⟨by simp [rightV], Ev.alloc _ _⟩
    · have he : s.toList.isEmpty = false := by
        cases h : s.toList.isEmpty
        · rfl
        · exact absurd ((empty_iff s).2 h) hs
      have hr : rightV 1 n s = false := by simp [rightV, he]
      rw [hr]
      go_enter Tryz.func79, Tryz.ntmps79
      go_wp2
      go_ret
      exact ⟨rfl, Ev.alloc _ _⟩
  · by_cases h2 : k = 2
    · subst h2
      by_cases h3 : n = 0
      · subst h3
        by_cases h4 : (s.size : Int) ≤ 40
        · have hr : rightV 2 0 s = true := by simp [rightV]; omega
          rw [hr]
          go_enter Tryz.func79, Tryz.ntmps79
          go_wp2
          go_ret
          exact ⟨rfl, Ev.alloc _ _⟩
        · have hr : rightV 2 0 s = false := by simp [rightV]; omega
          rw [hr]
          go_enter Tryz.func79, Tryz.ntmps79
          go_wp2
          go_ret
          exact ⟨rfl, Ev.alloc _ _⟩
      · have hr : rightV 2 n s = false := by simp [rightV, h3]
        rw [hr]
        go_enter Tryz.func79, Tryz.ntmps79
        go_wp2
        go_ret
        exact ⟨rfl, Ev.alloc _ _⟩
    · have hr : rightV k n s = false := by simp [rightV, h1, h2]
      rw [hr]
      go_enter Tryz.func79, Tryz.ntmps79
      go_wp2
      go_ret
      exact ⟨rfl, Ev.alloc _ _⟩

set_option maxRecDepth 100000 in
set_option maxHeartbeats 1600000 in
theorem refr_less (k n : Int) (s : ByteArray) (k' n' : Int) (s' : ByteArray) (w : World) :
    Calls Tryz.prog 80 #[vv k n s, vv k' n' s'] w fun e w' => e = .returned (.bool (lessV k n s k' n' s')) ∧ Ev w w' := by
  have hR := Lib.hid (fun w1 => refr_right k n s w1)
  have hR' := Lib.hid (fun w1 => refr_right k' n' s' w1)
  have hE : lessV k n s k' n' s' = if rightV k n s && rightV k' n' s' then (if k = k' then (if k = 1 then decide (n < n') else Op.bytesLess s.toList s'.toList) else k == 1) else false := rfl
  rw [hE]
  clear hE
  generalize rightV k n s = r at *
  generalize rightV k' n' s' = r' at *
  obtain ⟨w0, hw0, B, B', hE0⟩ := Boxed.two k n s k' n' s' w
  have c0 := B.c0; have c1 := B.c1; have c2 := B.c2; have d0 := B'.c0; have d1 := B'.c1; have d2 := B'.c2
  go_enter Tryz.func80, Tryz.ntmps80
  cases r
  · go_wp2_with (first | ((with_reducible refine (hR.out _).mono ?_); rintro x w1 ⟨rfl, hE1⟩; rw [← hw0] at hE1))
    go_ret
    exact ⟨rfl, hE0.trans hE1⟩
  · cases r'
    · go_wp2_with (first | ((with_reducible refine (hR.out _).mono ?_); rintro x w1 ⟨rfl, hE1⟩; rw [← hw0] at hE1; have d0 := (B'.ev hE1).c0; have d1 := (B'.ev hE1).c1; have d2 := (B'.ev hE1).c2) | ((with_reducible refine (hR'.out _).mono ?_); rintro x w2 ⟨rfl, hE2⟩))
      go_ret
      exact ⟨rfl, (hE0.trans hE1).trans hE2⟩
    · by_cases hk : k = k'
      · subst hk
        by_cases h1 : k = 1
        · subst h1
          go_wp2_with (first | ((with_reducible refine (hR.out _).mono ?_); rintro x w1 ⟨rfl, hE1⟩; rw [← hw0] at hE1; have B1' := B'.ev hE1; have d0 := B1'.c0; have d1 := B1'.c1; have d2 := B1'.c2) | ((with_reducible refine (hR'.out _).mono ?_); rintro x w2 ⟨rfl, hE2⟩; have B2 := (B.ev hE1).ev hE2; have B2' := B1'.ev hE2; have c0 := B2.c0; have c1 := B2.c1; have c2 := B2.c2; have d0 := B2'.c0; have d1 := B2'.c1; have d2 := B2'.c2))
          go_ret
          exact ⟨by simp, (hE0.trans hE1).trans hE2⟩
        · go_wp2_with (first | ((with_reducible refine (hR.out _).mono ?_); rintro x w1 ⟨rfl, hE1⟩; rw [← hw0] at hE1; have B1' := B'.ev hE1; have d0 := B1'.c0; have d1 := B1'.c1; have d2 := B1'.c2) | ((with_reducible refine (hR'.out _).mono ?_); rintro x w2 ⟨rfl, hE2⟩; have B2 := (B.ev hE1).ev hE2; have B2' := B1'.ev hE2; have c0 := B2.c0; have c1 := B2.c1; have c2 := B2.c2; have d0 := B2'.c0; have d1 := B2'.c1; have d2 := B2'.c2))
          go_ret
          exact ⟨by simp, (hE0.trans hE1).trans hE2⟩
      · by_cases h1 : k = 1
        · subst h1
          go_wp2_with (first | ((with_reducible refine (hR.out _).mono ?_); rintro x w1 ⟨rfl, hE1⟩; rw [← hw0] at hE1; have B1' := B'.ev hE1; have d0 := B1'.c0; have d1 := B1'.c1; have d2 := B1'.c2) | ((with_reducible refine (hR'.out _).mono ?_); rintro x w2 ⟨rfl, hE2⟩; have B2 := (B.ev hE1).ev hE2; have B2' := B1'.ev hE2; have c0 := B2.c0; have c1 := B2.c1; have c2 := B2.c2; have d0 := B2'.c0; have d1 := B2'.c1; have d2 := B2'.c2))
          go_ret
          exact ⟨by simp, (hE0.trans hE1).trans hE2⟩
        · go_wp2_with (first | ((with_reducible refine (hR.out _).mono ?_); rintro x w1 ⟨rfl, hE1⟩; rw [← hw0] at hE1; have B1' := B'.ev hE1; have d0 := B1'.c0; have d1 := B1'.c1; have d2 := B1'.c2) | ((with_reducible refine (hR'.out _).mono ?_); rintro x w2 ⟨rfl, hE2⟩; have B2 := (B.ev hE1).ev hE2; have B2' := B1'.ev hE2; have c0 := B2.c0; have c1 := B2.c1; have c2 := B2.c2; have d0 := B2'.c0; have d1 := B2'.c1; have d2 := B2'.c2))
          go_ret
          exact ⟨by simp, (hE0.trans hE1).trans hE2⟩
end Go.Proofs.YthpiobkghfdkkaaGreat

namespace Go.Proofs.YthpiobkghfdkkaaGreat
open Go.RowKit
set_option linter.unusedVariables false

end Go.Proofs.YthpiobkghfdkkaaGreat

namespace Go.Proofs.YthpiobkghfdkkaaGreat
open Go.RowKit
set_option linter.unusedVariables false

/-- The numbers of a row fit an int64. -/
def okN (l : List V) : Prop := ∀ x ∈ l, -9223372036854775808 ≤ x.2.1 ∧ x.2.1 ≤ 9223372036854775807

end Go.Proofs.YthpiobkghfdkkaaGreat

namespace Go.Proofs.YthpiobkghfdkkaaGreat
open Go.RowKit
set_option linter.unusedVariables false

end Go.Proofs.YthpiobkghfdkkaaGreat
