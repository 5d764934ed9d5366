/-
  An argument of type Value, opened and shut again; the order and the sameness of values.
-/
import Derived.Test.YtcenjjoadhfhaaaRows
import Derived.Test.YtcenjjoadhfhaaaVal
import Derived.Lib.SmallJoins
import Derived.ProofKit
import Derived.OpenShut
namespace Go.Proofs.Ytcenjjoadhfhaaa
open Go.RowKit Go.WideShapes Go.ChangeShapes
set_option linter.unusedVariables false

section
variable {H : Type} {enc : TypeId × Value → H} {w : World} {base : Nat} {sp : Nat → Bool} {held : Bool}
theorem open_val {r : Reach} {b0 : Nat} {v : Value} {d : DataW H} {p : List MemPlace} (hv : Value.okWide Try.prog w r b0 50 v) (h : DataW.Trod enc Try.prog w base sp held 50 v d p) :
    ∃ (k n : Int) (s : ByteArray), v = vv k n s ∧ d = .agg [.lit (.int .i64 k), .lit (.int .i64 n), .lit (.string s.data.toList)] ∧ p = [] ∧ (Lit.int .i64 k).wf = true ∧ (Lit.int .i64 n).wf = true ∧ s.size ≤ maxLen := by
  obtain ⟨v0, v1, v2, y0, y1, y2, m, rfl, rfl, rfl, h0, h1, h2⟩ := Joins.open_agg3 Try.underlying50 (by kernel_rfl) (by kernel_rfl) hv h
  obtain ⟨k, e0, rfl, wk⟩ := DataW.trod_int Try.underlying3 h0
  obtain ⟨n, e1, rfl, wn⟩ := DataW.trod_int Try.underlying2 h1
  obtain ⟨s, e2, rfl, ws⟩ := DataW.trod_string Try.underlying9 h2
  simp only [List.cons.injEq, and_true] at e0 e1 e2
  subst e0; subst e1; subst e2
  exact ⟨k, n, s, rfl, rfl, rfl, wk, wn, ws⟩
theorem shut_val {k n : Int} {s : ByteArray} (hk : (Lit.int .i64 k).wf = true) (hn : (Lit.int .i64 n).wf = true) (hs : s.size ≤ maxLen) :
    DataW.Trod enc Try.prog w base sp held 50 (vv k n s) (.agg [.lit (.int .i64 k), .lit (.int .i64 n), .lit (.string s.data.toList)]) [] := by
  have h0 : DataW.Trod enc Try.prog w base sp held 3 (.int .i64 k) (.lit (.int .i64 k)) [] := shut_int Try.underlying3 hk
  have h1 : DataW.Trod enc Try.prog w base sp held 2 (.int .i64 n) (.lit (.int .i64 n)) [] := shut_int Try.underlying2 hn
  have h2 : DataW.Trod enc Try.prog w base sp held 9 (.string s) (.lit (.string s.data.toList)) [] := ChangeMaps.shut_string Try.underlying9 hs
  exact Joins.shut_agg3 Try.underlying50 (by kernel_rfl) (by kernel_rfl) h0 h1 h2
end

/-- Two values are the same. -/
def sameV (k n : Int) (s : ByteArray) (k' n' : Int) (s' : ByteArray) : Bool := k == k' && (n == n' && s.toList == s'.toList)
theorem eqGuard_val (op : BinOp) (x y : Operand) (xs ys : Array Value) (w : World) : (eqGuard op 50 x y (.agg xs) (.agg ys)).run Try.prog w = .ok () w := run_eqGuard_agg w op 50 x y xs ys (by kernel_rfl)
theorem run_eq_val (k n : Int) (s : ByteArray) (k' n' : Int) (s' : ByteArray) (w : World) :
    (binOp .eql 50 (vv k n s) (vv k' n' s')).run Try.prog w = .ok (.bool (sameV k n s k' n' s')) w := by
  rw [run_eql_struct, run_equalIn_agg w 9999 50 _ _ (by kernel_rfl) (by kernel_rfl)]
  simp only [Program.fieldsOf, Try.underlying50]
  unfold sameV
  by_cases h1 : k = k'
  · by_cases h2 : n = n'
    · by_cases h3 : s.toList = s'.toList
      · simp [Op.eqFields, go_sem, h1, h2, h3]
      · simp [Op.eqFields, go_sem, h1, h2, h3]
    · simp [Op.eqFields, go_sem, h1, h2]
  · simp [Op.eqFields, go_sem, h1]
theorem run_neq_val (k n : Int) (s : ByteArray) (k' n' : Int) (s' : ByteArray) (w : World) :
    (binOp .neq 50 (vv k n s) (vv k' n' s')).run Try.prog w = .ok (.bool (!sameV k n s k' n' s')) w := by
  have h := run_eq_val k n s k' n' s' w
  rw [run_eql_struct] at h
  rw [run_neq_struct]
  cases hr : (Op.equalIn 10000 50 (vv k n s) (vv k' n' s')).run Try.prog w with
  | ok b w' =>
    rw [hr] at h
    simp only [Result.andThen_ok, Result.ok.injEq, Value.bool.injEq] at h ⊢
    exact ⟨by rw [h.1], h.2⟩
  | halt x w' =>
    rw [hr] at h
    cases h
theorem toList_inj {s t : ByteArray} (h : s.toList = t.toList) : s = t := by
  obtain ⟨⟨x⟩⟩ := s
  obtain ⟨⟨y⟩⟩ := t
  simpa using h
theorem sameV_iff {k n : Int} {s : ByteArray} {k' n' : Int} {s' : ByteArray} : sameV k n s k' n' s' = true ↔ k = k' ∧ n = n' ∧ s = s' := by
  unfold sameV
  constructor
  · intro h
    simp only [Bool.and_eq_true, beq_iff_eq] at h
    exact ⟨h.1, h.2.1, toList_inj h.2.2⟩
  · rintro ⟨rfl, rfl, rfl⟩
    simp
theorem sameV_self (k n : Int) (s : ByteArray) : sameV k n s k n s = true := sameV_iff.2 ⟨rfl, rfl, rfl⟩

/-- In a region that draws: a Value is loaded out of its box; two are held against one another. -/
theorem run_load_val {ρ : Operand → Value} {o : Oper} {x : Operand} {g : Nat} {k n : Int} {s : ByteArray} {w : World} (ho : o.op = .load 50 x) (hx : ρ x = .pointer (some ⟨g, 0, none⟩)) (hB : Boxed g k n s w) :
    (execOp ρ o).run Try.prog w = .ok (.value (vv k n s)) w := by
  have h := run_loadVar_row w g 50 50 _ (0, 0) _ hB.blk Try.underlying50 rfl Try.sizeVal
  unfold execOp
  rw [ho]
  simp only [hx, Instr.loadAt, Instr.sureAddr, Sem.run_bind, Sem.run_pure, Result.andThen_ok, h]
theorem op_eq_val {ρ : Operand → Value} {o : Oper} {x y : Operand} {k n : Int} {s : ByteArray} {k' n' : Int} {s' : ByteArray} {w : World} (ho : o.op = .binOp .eql 50 x y 50) (hx : ρ x = vv k n s) (hy : ρ y = vv k' n' s') :
    (execOp ρ o).run Try.prog w = .ok (.value (.bool (sameV k n s k' n' s'))) w := by
  have h1 := run_eq_val k n s k' n' s' w
  have h2 := eqGuard_val .eql x y #[.int .i64 k, .int .i64 n, .string s] #[.int .i64 k', .int .i64 n', .string s'] w
  unfold execOp
  rw [ho]
  simp only [hx, hy, Sem.run_bind, h1, h2, Result.andThen_ok, Sem.run_pure]
theorem op_neq_val {ρ : Operand → Value} {o : Oper} {x y : Operand} {k n : Int} {s : ByteArray} {k' n' : Int} {s' : ByteArray} {w : World} (ho : o.op = .binOp .neq 50 x y 50) (hx : ρ x = vv k n s) (hy : ρ y = vv k' n' s') :
    (execOp ρ o).run Try.prog w = .ok (.value (.bool (!sameV k n s k' n' s'))) w := by
  have h1 := run_neq_val k n s k' n' s' w
  have h2 := eqGuard_val .neq x y #[.int .i64 k, .int .i64 n, .string s] #[.int .i64 k', .int .i64 n', .string s'] w
  unfold execOp
  rw [ho]
  simp only [hx, hy, Sem.run_bind, h1, h2, Result.andThen_ok, Sem.run_pure]
end Go.Proofs.Ytcenjjoadhfhaaa
