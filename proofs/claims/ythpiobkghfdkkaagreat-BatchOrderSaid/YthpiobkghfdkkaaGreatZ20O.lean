/-
  Texts that belong together: Package sexp: take. What a token tells of the byte at which it stands. Package sexp: Read. Chapter 7's runs ('known'). Where the trees stand that are read. The law's own function placed. The document's own signs: letters, digits, hexadecimal digits. The document's own number. The document's own number at a place: what the plain number gives of the rest. The document's own text at a place. Boxes of structs; the document's own leaf. Chapter 8 in plain words: expressions, their kinds and values; expressions in memory. The document's own Read in plain words; what is open in memory. The book: two lists of expressions that are alike are told to be so.
-/
import Derived.Deep.RegionWith
import Derived.Test.YthpiobkghfdkkaaGreatZ18O
import Derived.KernelRfl
import Derived.Deep.RegionLaw
import Derived.Test.YthpiobkghfdkkaaGreatZ17O
import Derived.Test.YthpiobkghfdkkaaGreatZ8O
import Derived.Test.YthpiobkghfdkkaaGreatZ2O
namespace Go.Proofs.YthpiobkghfdkkaaGreat
open Go.RowKit
set_option linter.unusedVariables false

end Go.Proofs.YthpiobkghfdkkaaGreat

namespace Go.Proofs.YthpiobkghfdkkaaGreat
open Go.RowKit
set_option linter.unusedVariables false

end Go.Proofs.YthpiobkghfdkkaaGreat

namespace Go.Proofs.YthpiobkghfdkkaaGreat
open Go.RowKit
set_option linter.unusedVariables false

end Go.Proofs.YthpiobkghfdkkaaGreat

namespace Go.Proofs.YthpiobkghfdkkaaGreat
open Go.RowKit
set_option linter.unusedVariables false

end Go.Proofs.YthpiobkghfdkkaaGreat

namespace Go.Proofs.YthpiobkghfdkkaaGreat
open Go.RowKit
set_option linter.unusedVariables false

end Go.Proofs.YthpiobkghfdkkaaGreat

namespace Go.Proofs.YthpiobkghfdkkaaGreat
open Go.RowKit
set_option linter.unusedVariables false

end Go.Proofs.YthpiobkghfdkkaaGreat

namespace Go.Proofs.YthpiobkghfdkkaaGreat
open Go.RowKit
set_option linter.unusedVariables false

end Go.Proofs.YthpiobkghfdkkaaGreat

namespace Go.Proofs.YthpiobkghfdkkaaGreat
open Go.RowKit
set_option linter.unusedVariables false

end Go.Proofs.YthpiobkghfdkkaaGreat

namespace Go.Proofs.YthpiobkghfdkkaaGreat
open Go.RowKit
set_option linter.unusedVariables false

end Go.Proofs.YthpiobkghfdkkaaGreat

namespace Go.Proofs.YthpiobkghfdkkaaGreat
open Go.RowKit
set_option linter.unusedVariables false

theorem results_tmp4 {fn : Func} {t u v x : Tmp} (h : fn.results = #[.tmp t, .tmp u, .tmp v, .tmp x]) (tmps : Array Value) (P : Program) (w : World) :
    (results fn tmps).run P w = .ok (.tuple #[tmps.getD t undef, tmps.getD u undef, tmps.getD v undef, tmps.getD x undef]) w := by
  simp [results, h]
end Go.Proofs.YthpiobkghfdkkaaGreat

namespace Go.Proofs.YthpiobkghfdkkaaGreat
open Go.RowKit
set_option linter.unusedVariables false

/-- A struct in its own box. -/
structure Bx (T : TypeId) (g : Nat) (cs : Array Value) (w : World) : Prop where
  blk : w.heap[g]? = some (.cells cs T (0, 0))
theorem Bx.but {K : List Nat} {T : TypeId} {g : Nat} {cs : Array Value} {w w' : World} (h : Bx T g cs w) (hb : But K w w') (hn : g ∉ K) : Bx T g cs w' := ⟨hb.heap h.blk hn⟩
theorem Bx.ev {T : TypeId} {g : Nat} {cs : Array Value} {w w' : World} (h : Bx T g cs w) (hE : Ev w w') : Bx T g cs w' := h.but (But.of_ev (K := []) hE) (by simp)
theorem Bx.lt {T : TypeId} {g : Nat} {cs : Array Value} {w : World} (h : Bx T g cs w) : g < w.heap.size := (Array.getElem?_eq_some_iff.1 h.blk).1
theorem Bx.cell {T : TypeId} {g : Nat} {cs : Array Value} {w : World} (h : Bx T g cs w) (i : Nat) : w.cell? ⟨g, i, none⟩ = cs[i]? := by rw [Lib.cell_of_heap h.blk]
theorem Bx.frozen {T : TypeId} {g : Nat} {cs : Array Value} {w : World} (h : Bx T g cs w) (i : Nat) : w.frozen? ⟨g, i, none⟩ = false := Lib.frozen_of_heap h.blk i
theorem Bx.set {T : TypeId} {g : Nat} {cs : Array Value} {w : World} (h : Bx T g cs w) (i : Nat) (v : Value) : Bx T g (cs.setIfInBounds i v) (w.setCell ⟨g, i, none⟩ v) := ⟨ow_set_heap i v h.blk⟩
theorem Bx.new (T : TypeId) (cs : Array Value) (w : World) : Bx T w.heap.size cs (w.alloc (.cells cs T)) := ⟨heap_alloc_new w _⟩
/-- A box of one's own, stored into: what was there stays. -/
theorem Ev.box {w w1 w2 : World} {g : Nat} (h : Ev w w1) (hb : But [g] w1 w2) (hg : w.heap.size ≤ g) : Ev w w2 :=
  ((But.of_ev (K := [g]) h).then hb).ev fun k hk => by simp at hk; omega

theorem results_cell1 {P : Program} {fn : Func} {p : Tmp} {ty : TypeId} (h : fn.results = #[.cell p ty]) (tmps : Array Value) (w : World) (g : Nat) (cs : Array Value) (d : TypeDesc)
    (hp : tmps.getD p undef = .pointer (some ⟨g, 0, none⟩)) (hg : Bx ty g cs w)
    (hu : P.underlying ty = some d) (hd : (match d with | .struct _ | .array _ _ => true | _ => false) = true) (hi : (P.info? ty).map (·.size) = some cs.size) :
    (results fn tmps).run P w = .ok (.agg cs) w := by
  have hp' : tmps[p]?.getD undef = .pointer (some ⟨g, 0, none⟩) := by simpa using hp
  simp [results, h, hp', asAddr, run_loadVar_row w g ty ty cs (0, 0) d hg.blk hu hd hi]
end Go.Proofs.YthpiobkghfdkkaaGreat

namespace Go.Proofs.YthpiobkghfdkkaaGreat
open Go.RowKit
set_option linter.unusedVariables false

def v0 : V := (0, 0, ⟨#[]⟩)
-- How deep, how many parts.
end Go.Proofs.YthpiobkghfdkkaaGreat

namespace Go.Proofs.YthpiobkghfdkkaaGreat
open Go.RowKit
set_option linter.unusedVariables false

/-- An empty literal in memory. -/
def Empty0 (et : TypeId) (b : Nat) (v : Value) (w : World) : Prop := ∃ g, v = .slice (some ⟨g, 0, none⟩) 0 0 ∧ w.heap[g]? = some (.cells #[] et (0, 0)) ∧ b ≤ g
theorem Empty0.mono {et : TypeId} {b : Nat} : Mono (Empty0 et b) := fun v w w' hE ⟨g, h1, h2, h3⟩ => ⟨g, h1, by rw [hE.block g (Array.getElem?_eq_some_iff.1 h2).1]; exact h2, h3⟩
theorem Empty0.new {et : TypeId} {b : Nat} {w : World} (h : b ≤ w.heap.size) : Empty0 et b (.slice (some ⟨w.heap.size, 0, none⟩) 0 0) (w.alloc (.cells #[] et)) := ⟨_, rfl, heap_alloc_new w _, h⟩
theorem Empty0.ow {α : Type} {k : Nat} {enc : α → List Value} {et : TypeId} {b : Nat} {v : Value} {w : World} (h : Empty0 et b v w) : Ow et k enc b w v ([] : List α) := by
  obtain ⟨g, rfl, hg, hb⟩ := h
  exact ⟨by simp [cl], .inr ⟨g, 0, #[], rfl, hb, hg, Nat.le_refl _, by decide, by simp, by simp [cl]⟩⟩
/-- append onto an empty literal: nothing that was there turns. -/
theorem run_append_ow0 {α : Type} {k : Nat} {enc : α → List Value} {et : TypeId} {b : Nat} {v : Value} {w : World} {P : Program} (E : Enc k enc) (T ty : TypeId) (ht : P.underlying T = some (.slice et)) {zero : Value} {bytes : Nat} (hi : (P.info? et).map (fun i => (i.zero, i.size, i.bytes)) = some (some zero, k, bytes)) (hz : zero.cells.size = k)
    (hv : Empty0 et b v w) (A : Option Addr) (m c : Nat) (l : List α) (hB : Sl k enc w A m c l) (hbytes : l.length * bytes ≤ 140737488355328) (hsm : l.length ≤ 1000000000) (hbase : b ≤ w.heap.size) :
    ∃ v' w', (Builtin.append_ #[T, T] ty #[v, .slice A m c]).run P w = .ok v' w' ∧ Ow et k enc b w' v' l ∧ Ev w w' := by
  obtain ⟨v', w', hr, h1, h2, h3, h4⟩ := run_append_ow (P := P) E T ty ht hi hz (hv.ow (k := k) (enc := enc)) A m c l hB (by simpa using hbytes) (by simpa using hsm) hbase
  rw [List.nil_append] at h1
  refine ⟨v', w', hr, h1, ?_⟩
  obtain ⟨g, rfl, hg, hbg⟩ := hv
  refine ⟨h2.os, h2.tape, h2.output, h2.size, fun j hj => ?_⟩
  by_cases hjg : j = g
  · subst hjg
    obtain ⟨i, hi0, hz', hsz, hby⟩ := info_parts hi
    have hl := hB.len
    cases A with
    | none =>
      obtain ⟨rfl, rfl⟩ := hB.nil rfl
      have hr2 := run_append_owned_none (P := P) (w := w) b T ty et i k ht hi0 _ _ _ (Empty0.ow (k := k) (enc := enc) ⟨j, rfl, hg, hbg⟩)
      rw [hr] at hr2
      simp only [Result.ok.injEq] at hr2
      rw [hr2.2]
    | some ad =>
      by_cases hm : m = 0
      · subst hm
        have hr2 := run_append_room (P := P) w T ty et i ht hi0 j 0 0 #[] hg ad 0 c [] (by simp) (by simp) (by simp) (by omega) (by simp)
        rw [hr] at hr2
        simp only [Result.ok.injEq] at hr2
        rw [hr2.2, setRow_heap w j #[] _ et (0, 0) hg, hg]
        simp
      · have hcells : ∀ j u, (cl enc l)[j]? = some u → w.cell? (ad.add j) = some u := by
          intro q u hu
          obtain ⟨i', j', x, rfl, hx, hxu⟩ := cl_back E l q u hu
          have hq := (List.getElem?_eq_some_iff.1 hx).1
          obtain ⟨b', off, e, _, hc⟩ := hB.rd (by omega)
          obtain rfl := Option.some.inj e
          have := hc i' x hx j' u hxu
          rw [Addr.add_lit]
          rwa [show off + i' * k + j' = off + (i' * k + j') by omega] at this
        have hr2 := run_append_grow (P := P) w T ty et i zero ht hi0 hz' ⟨j, 0, none⟩ 0 0 [] (by simp) (by simp) ad m c (cl enc l) (by rw [cl_length E, hl, hsz]) hcells (by omega) (by omega) (growslice_fits (by omega) (by rw [hby]; rw [hl] at hbytes; simpa using hbytes))
        rw [hr] at hr2
        simp only [Result.ok.injEq] at hr2
        rw [hr2.2]
        exact ((Ev.drew w).trans (Ev.alloc w.drew _)).block j hj
  · exact h2.block j hj (fun hm => hjg (by have := mem_foot.1 hm; simp [Value.ownBlock] at this; exact this.symm))

theorem wpList_append_ow0 {α : Type} {k : Nat} {enc : α → List Value} {et : TypeId} {base : Nat} {v : Value} {P : Program} {w : World} {ops : Array Oper} {rest : List Oper} {o : Oper} {a : Act} {Q : Exit → Act → World → Prop} (hgd : o.guard = none) (T : TypeId) (s x : Operand)
    (ho : o.op = .call { callee := .builtin .append, args := #[s, x], argTypes := #[T, T] }) (E : Enc k enc)
    (ht : P.underlying T = some (.slice et)) {zero : Value} {bytes : Nat} (hi : (P.info? et).map (fun i => (i.zero, i.size, i.bytes)) = some (some zero, k, bytes)) (hz : zero.cells.size = k)
    (hs : a.eval s = v) (hown : Empty0 et base v w) (A : Option Addr) (m c : Nat) (l : List α) (hx : a.eval x = .slice A m c) (hB : Sl k enc w A m c l)
    (hbytes : l.length * bytes ≤ 140737488355328) (hsm : l.length ≤ 1000000000) (hbase : base ≤ w.heap.size)
    (h : ∀ v' w', Ow et k enc base w' v' l → Ev w w' → wpList P ops Q rest (a.put o.dst v') w') : wpList P ops Q (o :: rest) a w := by
  refine wpList_plain hgd fun K hK => ?_
  obtain ⟨v', w', hr, h2, h3⟩ := run_append_ow0 (P := P) E T o.type ht hi hz hown A m c l hB hbytes hsm hbase
  unfold Oper.wp execOp
  simp only [ho, resolve, invoke, builtin, Sem.run_bind, Sem.run_pure, Result.andThen_ok, List.map_toArray, List.map_cons, List.map_nil, hs, hx, hr]
  exact hK _ _ (h v' w' h2 h3)
end Go.Proofs.YthpiobkghfdkkaaGreat

namespace Go.Proofs.YthpiobkghfdkkaaGreat
open Go.RowKit
set_option linter.unusedVariables false

end Go.Proofs.YthpiobkghfdkkaaGreat
