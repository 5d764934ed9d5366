/-
  Texts that belong together: Plans in memory. Chapter 10 in plain words: what a plan gives, column by column, with the first error; package check: fail, find, kind, limit. Package check: names among others (slices.Contains), once, add. Chapter 10 in plain words: what each form of a plan gives. Package plan: the reader: an error kept, a name, an expression, names. The document (chapter 9): a tree's head; atoms; a name, names; a list in brackets. Package plan: the reader: columns of a project. Package plan: the reader: aggregates of a group. Package plan: the reader: plans within a plan. Package plan: the trees of a plan's parts: atoms, open, aggTree. Trees made within a drawn region: what is known of them together (for XRegionG): a slice of the region's own, and others that avoid it. Package plan: the trees of a project's columns. Package plan: the tree of a plan: tables, unions, distinct rows. Package plan: the tree of a filter. Package plan: the tree of a project. Package plan: the tree of a join. Package plan: the tree of a group. Package plan: the reader: a plan of each form. Package plan: the reader: a project. Package plan: the reader: a filter, a join, a group. Package plan: the reader: any plan.
-/
import Derived.Test.YthpiobkghfdkkaaGreatZ33O
import Derived.Test.YthpiobkghfdkkaaGreatZ28O
import Derived.Test.YthpiobkghfdkkaaGreatZ27O
import Derived.Test.YthpiobkghfdkkaaGreatZ24O
import Derived.Test.YthpiobkghfdkkaaGreatZ11O
import Derived.BigQuiet
import Derived.Test.YthpiobkghfdkkaaGreatZ2O
import Derived.Test.YthpiobkghfdkkaaGreatZ31O
namespace Go.Proofs.YthpiobkghfdkkaaGreat
open Go.RowKit
set_option linter.unusedVariables false

/-- A list as it lies. -/
structure Sle (α : Type) where
  A : Option Addr
  cap : Nat
  l : List α
def Sle.v {α : Type} (x : Sle α) : Value := .slice x.A x.l.length x.cap
def ac (a : Ag) : List Value := [.string ⟨a.1.toArray⟩, .string ⟨a.2.1.toArray⟩, .string ⟨a.2.2.toArray⟩]
abbrev As := Sl 3 ac
/-- A plan as it lies in memory. -/
inductive PM where
  | mk (kind : Int) (name : By) (ex : Sle M) (co lf rt : Sle By) (ag : Sle Ag) (A : Option Addr) (cap : Nat) (kids : List PM) : PM
def PM.kind : PM → Int
  | .mk k _ _ _ _ _ _ _ _ _ => k
def PM.name : PM → By
  | .mk _ s _ _ _ _ _ _ _ _ => s
def PM.ex : PM → Sle M
  | .mk _ _ x _ _ _ _ _ _ _ => x
def PM.co : PM → Sle By
  | .mk _ _ _ x _ _ _ _ _ _ => x
def PM.lf : PM → Sle By
  | .mk _ _ _ _ x _ _ _ _ _ => x
def PM.rt : PM → Sle By
  | .mk _ _ _ _ _ x _ _ _ _ => x
def PM.ag : PM → Sle Ag
  | .mk _ _ _ _ _ _ x _ _ _ => x
def PM.A : PM → Option Addr
  | .mk _ _ _ _ _ _ _ a _ _ => a
def PM.cap : PM → Nat
  | .mk _ _ _ _ _ _ _ _ c _ => c
def PM.kids : PM → List PM
  | .mk _ _ _ _ _ _ _ _ _ l => l
mutual
def PM.p : PM → Pl
  | .mk k s ex co lf rt ag _ _ l => .mk k s (ex.l.map M.t) co.l lf.l rt.l ag.l (PM.ps l)
def PM.ps : List PM → List Pl
  | [] => []
  | m :: l => m.p :: PM.ps l
end
def PM.kv (m : PM) : Value := .slice m.A m.kids.length m.cap
def pv (m : PM) : Value := .agg #[.int .i64 m.kind, .string ⟨m.name.toArray⟩, m.ex.v, m.co.v, m.lf.v, m.rt.v, m.ag.v, m.kv]
-- How deep.
mutual
def PM.dep : PM → Nat
  | .mk _ _ _ _ _ _ _ _ _ l => PM.deps l + 1
def PM.deps : List PM → Nat
  | [] => 0
  | m :: l => max m.dep (PM.deps l)
end
end Go.Proofs.YthpiobkghfdkkaaGreat

namespace Go.Proofs.YthpiobkghfdkkaaGreat
open Go.RowKit
set_option linter.unusedVariables false

theorem encC : Enc 2 ccells := ⟨by omega, fun _ => rfl, fun x u hu => by
  simp [ccells] at hu
  rcases hu with rfl | rfl <;> rfl⟩
end Go.Proofs.YthpiobkghfdkkaaGreat

namespace Go.Proofs.YthpiobkghfdkkaaGreat
open Go.RowKit
set_option linter.unusedVariables false

theorem Tryz.infoCol : (Tryz.prog.info? 89).map (fun i => (i.zero, i.size, i.bytes)) = some (some (.agg #[.string ⟨#[]⟩, .int .i64 0]), 2, 24) := by kernel_rfl
end Go.Proofs.YthpiobkghfdkkaaGreat

namespace Go.Proofs.YthpiobkghfdkkaaGreat
open Go.RowKit
set_option linter.unusedVariables false

/-- A table's definition as it lies. -/
structure DM where
  name : By
  A : Option Addr
  cap : Nat
  cols : List C
def dc (d : DM) : List Value := [.string ⟨d.name.toArray⟩, .slice d.A d.cols.length d.cap]
theorem encD : Enc 2 dc := ⟨by omega, fun _ => rfl, fun x u hu => by
  simp [dc] at hu
  rcases hu with rfl | rfl <;> rfl⟩
structure DsAt (w : World) (A : Option Addr) (n cap : Nat) (l : List DM) : Prop where
  sl : Sl 2 dc w A n cap l
  cols : ∀ d ∈ l, Cs w d.A d.cols.length d.cap d.cols
theorem DsAt.ev {w w' : World} {A : Option Addr} {n cap : Nat} {l : List DM} (h : DsAt w A n cap l) (hE : Ev w w') : DsAt w' A n cap l := ⟨h.sl.ev hE, fun d hd => (h.cols d hd).ev hE⟩
theorem DsAt.cell {w : World} {A : Option Addr} {n cap : Nat} {l : List DM} (h : DsAt w A n cap l) {i : Nat} {d : DM} (hd : l[i]? = some d) : ∃ b off, A = some ⟨b, off, none⟩ ∧ b < w.heap.size ∧ w.cell? ⟨b, off + i * 2, none⟩ = some (.string ⟨d.name.toArray⟩) ∧ w.cell? ⟨b, off + i * 2 + 1, none⟩ = some (.slice d.A d.cols.length d.cap) := by
  have hi := (List.getElem?_eq_some_iff.1 hd).1
  have hl := h.sl.len
  obtain ⟨b, off, e, hlt, hc⟩ := h.sl.rd (by omega)
  exact ⟨b, off, e, hlt, hc i d hd 0 _ rfl, hc i d hd 1 _ rfl⟩
abbrev Df := By × List C
def DM.df (d : DM) : Df := (d.name, d.cols)
-- The first error stays; with none, what each step asks was so.
end Go.Proofs.YthpiobkghfdkkaaGreat

namespace Go.Proofs.YthpiobkghfdkkaaGreat
open Go.RowKit
set_option linter.unusedVariables false

theorem Bx.two {T : TypeId} {g : Nat} {w : World} {v0 v1 : Value} (h : Bx T g #[v0, v1] w) : (w.cell? ⟨g, 0, none⟩ = some v0 ∧ w.cell? ⟨g, 1, none⟩ = some v1) ∧ (w.frozen? ⟨g, 0, none⟩ = false ∧ w.frozen? ⟨g, 1, none⟩ = false) :=
  ⟨⟨h.cell 0, h.cell 1⟩, h.frozen 0, h.frozen 1⟩
def set2 (g : Nat) (v0 v1 : Value) (w : World) : World := (w.setCell ⟨g, 0, none⟩ v0).setCell ⟨g, 1, none⟩ v1
theorem set2_fold (g : Nat) (v0 v1 : Value) (w : World) : (w.setCell ⟨g, 0, none⟩ v0).setCell ⟨g, 1, none⟩ v1 = set2 g v0 v1 w := rfl
theorem set2_but (g : Nat) (v0 v1 : Value) (w : World) : But [g] w (set2 g v0 v1 w) := (But.setCell ⟨g, 0, none⟩ v0 (by simp)).then (But.setCell ⟨g, 1, none⟩ v1 (by simp))
theorem Bx.set2 {T : TypeId} {g : Nat} {w : World} {u0 u1 : Value} (h : Bx T g #[u0, u1] w) (v0 v1 : Value) : Bx T g #[v0, v1] (set2 g v0 v1 w) := by
  have := (h.set 0 v0).set 1 v1
  rw [show (((#[u0, u1] : Array Value).setIfInBounds 0 v0).setIfInBounds 1 v1) = #[v0, v1] by simp] at this
  exact this
end Go.Proofs.YthpiobkghfdkkaaGreat

namespace Go.Proofs.YthpiobkghfdkkaaGreat
open Go.RowKit
set_option linter.unusedVariables false

end Go.Proofs.YthpiobkghfdkkaaGreat

namespace Go.Proofs.YthpiobkghfdkkaaGreat
open Go.RowKit
set_option linter.unusedVariables false

end Go.Proofs.YthpiobkghfdkkaaGreat

namespace Go.Proofs.YthpiobkghfdkkaaGreat
open Go.RowKit
set_option linter.unusedVariables false

end Go.Proofs.YthpiobkghfdkkaaGreat

namespace Go.Proofs.YthpiobkghfdkkaaGreat
open Go.RowKit
set_option linter.unusedVariables false

end Go.Proofs.YthpiobkghfdkkaaGreat

namespace Go.Proofs.YthpiobkghfdkkaaGreat
open Go.RowKit
set_option linter.unusedVariables false

end Go.Proofs.YthpiobkghfdkkaaGreat

namespace Go.Proofs.YthpiobkghfdkkaaGreat
open Go.RowKit
set_option linter.unusedVariables false

section
variable {i0 d0 : Nat} {P0 : Value → World → Prop} {fs : List (Nat × Nat × (List Nat → Value → World → Prop))}
end
end Go.Proofs.YthpiobkghfdkkaaGreat

namespace Go.Proofs.YthpiobkghfdkkaaGreat
open Go.RowKit
set_option linter.unusedVariables false

end Go.Proofs.YthpiobkghfdkkaaGreat

namespace Go.Proofs.YthpiobkghfdkkaaGreat
open Go.RowKit
set_option linter.unusedVariables false

end Go.Proofs.YthpiobkghfdkkaaGreat

namespace Go.Proofs.YthpiobkghfdkkaaGreat
open Go.RowKit
set_option linter.unusedVariables false

end Go.Proofs.YthpiobkghfdkkaaGreat

namespace Go.Proofs.YthpiobkghfdkkaaGreat
open Go.RowKit
set_option linter.unusedVariables false

end Go.Proofs.YthpiobkghfdkkaaGreat

namespace Go.Proofs.YthpiobkghfdkkaaGreat
open Go.RowKit
set_option linter.unusedVariables false

end Go.Proofs.YthpiobkghfdkkaaGreat

namespace Go.Proofs.YthpiobkghfdkkaaGreat
open Go.RowKit
set_option linter.unusedVariables false

end Go.Proofs.YthpiobkghfdkkaaGreat

namespace Go.Proofs.YthpiobkghfdkkaaGreat
open Go.RowKit
set_option linter.unusedVariables false

end Go.Proofs.YthpiobkghfdkkaaGreat

namespace Go.Proofs.YthpiobkghfdkkaaGreat
open Go.RowKit
set_option linter.unusedVariables false

end Go.Proofs.YthpiobkghfdkkaaGreat

namespace Go.Proofs.YthpiobkghfdkkaaGreat
open Go.RowKit
set_option linter.unusedVariables false

end Go.Proofs.YthpiobkghfdkkaaGreat

namespace Go.Proofs.YthpiobkghfdkkaaGreat
open Go.RowKit
set_option linter.unusedVariables false

end Go.Proofs.YthpiobkghfdkkaaGreat
