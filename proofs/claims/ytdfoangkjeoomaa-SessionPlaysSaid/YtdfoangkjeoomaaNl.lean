/-
  A call as one step of a region that draws its order.
-/
import Derived.Test.YtdfoangkjeoomaaNj
import Derived.Test.YtdfoangkjeoomaaNe
import Derived.Deep.RegionLaw
import Derived.Deep.DeepCutAuto
namespace Go.Proofs.Ytdfoangkjeoomaa
open Go.RowKit
set_option linter.unusedVariables false

theorem step_callv {P : Program} {ops : Array Oper} {o : Oper} {a : Act} {w : World} {K : Act → World → Prop} {Q : Exit → Act → World → Prop} {E : Prop}
    (hg : o.guard = none) (f : FuncId) (xs : Array Operand) (ts : Array TypeId) (hop : o.op = .call { callee := .value (.func f), args := xs, argTypes := ts }) (hb : bodied P f = true) (args : Array Value) (ha : xs.map a.eval = args) {v : Value} {S : World → Prop}
    (hc : Calls P f args w fun e w' => e = .returned v ∧ S w') (hK : ∀ w', S w' → K (a.put o.dst v) w') :
    if Region.wanted o (yielded ops a.tmps) = true then Oper.wp P o a w K Q else E := by
  have hw : Region.wanted o (yielded ops a.tmps) = true := by simp [Region.wanted, hg]
  rw [if_pos hw]
  unfold Oper.wp
  rw [run_call f xs ts hop hb w, ha]
  refine hc.mono ?_
  rintro e w' ⟨rfl, h⟩
  exact hK w' h

/-- An element of a list of calls: its six cells. -/
theorem Sn.acell {w w' : World} {A : Option Addr} {n cap : Nat} {l : List AK} (h : As w A n cap l) (hE : Ev w w') {i : Nat} (hi : i < n) :
    ∃ b off y, A = some ⟨b, off, none⟩ ∧ l[i]? = some y ∧ w'.cell? ⟨b, off + i * 6, none⟩ = some (.int .i64 y.1) ∧ w'.cell? ⟨b, off + i * 6 + 1, none⟩ = some (.int .i64 y.2.1) ∧ w'.cell? ⟨b, off + i * 6 + 2, none⟩ = some (.int .i64 y.2.2.1) ∧
      w'.cell? ⟨b, off + i * 6 + 3, none⟩ = some (.int .i64 y.2.2.2.1) ∧ w'.cell? ⟨b, off + i * 6 + 4, none⟩ = some (.int .i64 y.2.2.2.2.1) ∧ w'.cell? ⟨b, off + i * 6 + 5, none⟩ = some (.string y.2.2.2.2.2) := by
  obtain ⟨y, hy⟩ := h.at hi
  obtain ⟨b, off, e, hlt, hc⟩ := h.rd (by omega)
  have hk : ∀ j u, (acells y)[j]? = some u → w'.cell? ⟨b, off + i * 6 + j, none⟩ = some u := fun j u hu => by
    rw [World.cell?_of_block (w := w) (hE.block b hlt)]
    exact hc i y hy j u hu
  exact ⟨b, off, y, e, hy, hk 0 _ rfl, hk 1 _ rfl, hk 2 _ rfl, hk 3 _ rfl, hk 4 _ rfl, hk 5 _ rfl⟩
end Go.Proofs.Ytdfoangkjeoomaa
