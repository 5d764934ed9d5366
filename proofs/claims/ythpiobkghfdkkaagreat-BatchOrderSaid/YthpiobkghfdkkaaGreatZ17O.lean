/-
  Texts that belong together: Package sexp: texts. Package sexp: tokens. Trees in memory; the list of what is open. Package sexp: whole, judge. Own slices of any elements: what they hold, append of any slice onto them, a store into one cell, '[:m]'. Appends onto an own slice: what all cells of its block are, those beyond its length too.
-/
import Derived.ScopeJumps
import Derived.Deep.Cut
import Derived.Test.YthpiobkghfdkkaaGreatZ15O
namespace Go.Proofs.YthpiobkghfdkkaaGreat
open Go.RowKit
set_option linter.unusedVariables false

end Go.Proofs.YthpiobkghfdkkaaGreat

namespace Go.Proofs.YthpiobkghfdkkaaGreat
open Go.RowKit
set_option linter.unusedVariables false

end Go.Proofs.YthpiobkghfdkkaaGreat

namespace Go.Proofs.YthpiobkghfdkkaaGreat
open Go.RowKit
set_option linter.unusedVariables false

/-- A tree as it lies in memory: beside the tree where its Kids lie. -/
inductive M where
  | mk (kind : Int) (s : By) (n : Int) (A : Option Addr) (cap : Nat) (kids : List M) (pos : Nat) : M
def M.kind : M → Int
  | .mk k _ _ _ _ _ _ => k
def M.s : M → By
  | .mk _ s _ _ _ _ _ => s
def M.n : M → Int
  | .mk _ _ n _ _ _ _ => n
def M.A : M → Option Addr
  | .mk _ _ _ a _ _ _ => a
def M.cap : M → Nat
  | .mk _ _ _ _ c _ _ => c
def M.kids : M → List M
  | .mk _ _ _ _ _ l _ => l
def M.pos : M → Nat
  | .mk _ _ _ _ _ _ p => p
mutual
def M.t : M → T
  | .mk k s n _ _ l p => .mk k s n (M.ts l) p
def M.ts : List M → List T
  | [] => []
  | m :: l => m.t :: M.ts l
end
def M.kv (m : M) : Value := .slice m.A m.kids.length m.cap
def mc (m : M) : List Value := [.int .i64 m.kind, .string ⟨m.s.toArray⟩, .int .i64 m.n, m.kv, .int .i64 (m.pos : Int)]
/-- The blocks that may turn while v is the list of what is open. -/
def blk (v : Value) (os : List M) : List Nat := foot v ++ os.flatMap fun e => foot e.kv
end Go.Proofs.YthpiobkghfdkkaaGreat

namespace Go.Proofs.YthpiobkghfdkkaaGreat
open Go.RowKit
set_option linter.unusedVariables false

end Go.Proofs.YthpiobkghfdkkaaGreat

namespace Go.Proofs.YthpiobkghfdkkaaGreat
open Go.RowKit
set_option linter.unusedVariables false

/-- All cells of a list of elements. -/
def cl {α : Type} (enc : α → List Value) (l : List α) : List Value := l.flatMap enc
structure Enc {α : Type} (k : Nat) (enc : α → List Value) : Prop where
  pos : 0 < k
  len : ∀ x, (enc x).length = k
  one : ∀ x, ∀ u ∈ enc x, u.oneCell' = true
section
variable {α : Type} {k : Nat} {enc : α → List Value}
theorem cl_append (l m : List α) : cl enc (l ++ m) = cl enc l ++ cl enc m := by simp [cl]
theorem cl_cons (x : α) (l : List α) : cl enc (x :: l) = enc x ++ cl enc l := rfl
theorem cl_length (E : Enc k enc) (l : List α) : (cl enc l).length = l.length * k := by
  induction l with
  | nil => simp [cl]
  | cons x l ih => rw [cl_cons, List.length_append, E.len, ih, List.length_cons, Nat.add_mul, Nat.one_mul, Nat.add_comm]
theorem cl_get (E : Enc k enc) : ∀ (l : List α) (i : Nat) (x : α), l[i]? = some x → ∀ j u, (enc x)[j]? = some u → (cl enc l)[i * k + j]? = some u
  | [], _, _, h, _, _, _ => by simp at h
  | y :: l, 0, x, h, j, u, hu => by
    simp at h
    subst h
    have hj := (List.getElem?_eq_some_iff.1 hu).1
    rw [cl_cons, Nat.zero_mul, Nat.zero_add, List.getElem?_append_left hj]
    exact hu
  | y :: l, i + 1, x, h, j, u, hu => by
    rw [cl_cons, List.getElem?_append_right (by rw [E.len, Nat.add_mul]; omega), E.len, show (i + 1) * k + j - k = i * k + j by rw [Nat.add_mul]; omega]
    exact cl_get E l i x (by simpa using h) j u hu
theorem cl_back (E : Enc k enc) : ∀ (l : List α) (q : Nat) (u : Value), (cl enc l)[q]? = some u → ∃ i j x, q = i * k + j ∧ l[i]? = some x ∧ (enc x)[j]? = some u
  | [], q, u, h => by simp [cl] at h
  | y :: l, q, u, h => by
    rw [cl_cons] at h
    by_cases hq : q < k
    · rw [List.getElem?_append_left (by rw [E.len]; exact hq)] at h
      exact ⟨0, q, y, by omega, rfl, h⟩
    · rw [List.getElem?_append_right (by rw [E.len]; omega), E.len] at h
      obtain ⟨i, j, x, h1, h2, h3⟩ := cl_back E l (q - k) u h
      exact ⟨i + 1, j, x, by rw [Nat.add_mul]; omega, by simpa using h2, h3⟩
theorem cl_one (E : Enc k enc) (l : List α) : ∀ u ∈ cl enc l, u.oneCell' = true := by
  intro u hu
  obtain ⟨x, _, hx⟩ := List.mem_flatMap.1 hu
  exact E.one x u hx
theorem cl_set (E : Enc k enc) : ∀ (l : List α) (i j : Nat) (x x' : α) (u : Value), l[i]? = some x → j < k → enc x' = (enc x).set j u → (cl enc l).set (i * k + j) u = cl enc (l.set i x')
  | [], i, j, x, x', u, h, _, _ => by simp at h
  | y :: l, 0, j, x, x', u, h, hj, he => by
    simp at h
    subst h
    rw [List.set_cons_zero, cl_cons, cl_cons, he, Nat.zero_mul, Nat.zero_add, List.set_append_left _ _ (by rw [E.len]; exact hj)]
  | y :: l, i + 1, j, x, x', u, h, hj, he => by
    rw [List.set_cons_succ, cl_cons, cl_cons, List.set_append_right _ _ (by rw [E.len, Nat.add_mul]; omega), E.len, show (i + 1) * k + j - k = i * k + j by rw [Nat.add_mul]; omega]
    rw [cl_set E l i j x x' u (by simpa using h) hj he]
theorem ow_set_heap {w : World} {b : Nat} {cs : Array Value} {T : TypeId} (i : Nat) (x : Value) (h : w.heap[b]? = some (.cells cs T (0, 0))) : (w.setCell ⟨b, i, none⟩ x).heap[b]? = some (.cells (cs.setIfInBounds i x) T (0, 0)) := by
  simp only [World.setCell, Array.getElem?_modify, if_pos]
  rw [h]
  rfl

/-- v is a slice of its own that holds Z. -/
def Ow (et : TypeId) (k : Nat) (enc : α → List Value) (base : Nat) (w : World) (v : Value) (Z : List α) : Prop := w.ownsRow base et k v Z.length (cl enc Z)
variable {et : TypeId} {base : Nat} {w w' : World} {v : Value} {Z : List α}
theorem Ow.nil_ (w : World) : Ow et k enc base w (.slice none 0 0) ([] : List α) := World.ownsRow_nil _ _ _ _
theorem Ow.but {K : List Nat} (h : Ow et k enc base w v Z) (hb : But K w w') (hn : ∀ g, v.ownBlock = some g → g ∉ K) : Ow et k enc base w' v Z := by
  refine ⟨h.1, ?_⟩
  rcases h.2 with h2 | ⟨g, cap, cur, rfl, hg, hh, r⟩
  · exact .inl h2
  · exact .inr ⟨g, cap, cur, rfl, hg, hb.heap hh (hn g rfl), r⟩
theorem Ow.ev (h : Ow et k enc base w v Z) (hE : Ev w w') : Ow et k enc base w' v Z := own_ev h hE
theorem Ow.lt (h : Ow et k enc base w v Z) {g : Nat} (hg : v.ownBlock = some g) : base ≤ g ∧ g < w.heap.size := World.ownsRow.lt h g hg
theorem Ow.form (E : Enc k enc) (h : Ow et k enc base w v Z) : ∃ A cap, v = .slice A Z.length cap ∧ Sl k enc w A Z.length cap Z ∧ ∀ ad, A = some ad → v.ownBlock = some ad.block ∧ base ≤ ad.block ∧ ad.block < w.heap.size ∧ ad = ⟨ad.block, 0, none⟩ ∧ ∀ i, w.frozen? ⟨ad.block, i, none⟩ = false := by
  have hlt := fun g hg => World.ownsRow.lt h g hg
  rcases h.2 with ⟨rfl, hn⟩ | ⟨g, cap, cur, rfl, hb, hg, hnc, hcm, hcs, ht⟩
  · have hl : Z = [] := List.eq_nil_of_length_eq_zero hn
    subst hl
    exact ⟨none, 0, rfl, Sl.nil_ w, by simp⟩
  · refine ⟨_, _, rfl, ⟨rfl, hnc, by simpa [maxLen] using hcm, by simp, fun h0 => ⟨g, 0, rfl, (Array.getElem?_eq_some_iff.1 hg).1, fun i x hx j u hu => ?_⟩⟩, ?_⟩
    · have hi := (List.getElem?_eq_some_iff.1 hx).1
      have hj := (List.getElem?_eq_some_iff.1 hu).1
      rw [E.len] at hj
      have := World.ownsRow.cellAt h (i * k + j) (by have : (i + 1) * k ≤ Z.length * k := Nat.mul_le_mul_right _ hi; rw [Nat.add_mul] at this; omega)
      rw [Nat.zero_add, this]
      exact cl_get E Z i x hx j u hu
    · rintro ad ⟨⟩
      exact ⟨rfl, (hlt g rfl).1, (hlt g rfl).2, rfl, fun i => Lib.frozen_of_heap hg i⟩
/-- One cell is stored. -/
theorem Ow.set (E : Enc k enc) {g n cap : Nat} (h : Ow et k enc base w (.slice (some ⟨g, 0, none⟩) n cap) Z) {i j : Nat} {x x' : α} {u : Value} (hx : Z[i]? = some x) (hj : j < k) (he : enc x' = (enc x).set j u) :
    Ow et k enc base (w.setCell ⟨g, i * k + j, none⟩ u) (.slice (some ⟨g, 0, none⟩) n cap) (Z.set i x') := by
  rcases h.2 with ⟨h1, hn⟩ | ⟨g', cap', cur, h1, hb, hg, hnc, hcm, hcs, ht⟩
  · cases h1
  · injection h1 with h1 h2 h3
    injection h1 with h1
    injection h1 with h1 _ _
    subst h1; subst h3
    refine ⟨cl_length E _, .inr ⟨g, cap, _, by rw [List.length_set, h2], hb, ow_set_heap _ _ hg, by rw [List.length_set]; exact hnc, hcm, by simpa using hcs, ?_⟩⟩
    rw [List.length_set, ← cl_set E Z i j x x' u hx hj he, ← ht, Array.toList_setIfInBounds, List.take_set]

/-- append of a slice onto a slice of the call's own. -/
theorem run_append_ow {P : Program} (E : Enc k enc) (T ty : TypeId) (ht : P.underlying T = some (.slice et)) {zero : Value} {bytes : Nat} (hi : (P.info? et).map (fun i => (i.zero, i.size, i.bytes)) = some (some zero, k, bytes)) (hz : zero.cells.size = k)
    (hown : Ow et k enc base w v Z) (A : Option Addr) (m c : Nat) (l : List α) (hB : Sl k enc w A m c l) (hbytes : (Z.length + l.length) * bytes ≤ 140737488355328) (hsm : Z.length + l.length ≤ 1000000000) (hbase : base ≤ w.heap.size) :
    ∃ v' w', (Builtin.append_ #[T, T] ty #[v, .slice A m c]).run P w = .ok v' w' ∧ Ow et k enc base w' v' (Z ++ l) ∧ But (foot v) w w' ∧ Sprung w v v' ∧ (v'.ownBlock = v.ownBlock ∨ v'.ownBlock = some w.heap.size) := by
  obtain ⟨i, hi0, hz', hsz, hby⟩ := info_parts hi
  have hl := hB.len
  cases A with
  | none =>
    obtain ⟨h0, h1⟩ := hB.nil rfl
    subst h0; subst h1
    have hnil : l = [] := List.eq_nil_of_length_eq_zero hl
    subst hnil
    exact ⟨v, w, run_append_owned_none (P := P) (w := w) base T ty et i k ht hi0 v _ _ hown, by simpa using hown, But.refl _ _, Sprung.refl _ _, .inl rfl⟩
  | some ad =>
    have hcells : ∀ j u, (cl enc l)[j]? = some u → w.cell? (ad.add j) = some u := by
      intro q u hu
      obtain ⟨i', j', x, rfl, hx, hxu⟩ := cl_back E l q u hu
      have hq := (List.getElem?_eq_some_iff.1 hx).1
      obtain ⟨b, off, e, _, hc⟩ := hB.rd (by omega)
      obtain rfl := Option.some.inj e
      have := hc i' x hx j' u hxu
      rw [Addr.add_lit]
      rwa [show off + i' * k + j' = off + (i' * k + j') by omega] at this
    obtain ⟨v', w', hr', h1, h2, _, h4⟩ := run_append_own_at (P := P) w base T ty et i zero k bytes ht hi0 hz' hsz hby hz E.pos v Z.length (cl enc Z) hown ad m c (cl enc l) (by rw [cl_length E, hl]) hcells (cl_one E l) (by unfold maxLen; omega) (by rw [← hl]; exact hbytes) hbase
    have hbut : But (foot v) w w' := But.grown h2 (fun g hg => mem_foot.2 hg)
    have hspr : Sprung w v v' := fun g hg => by
      rcases h4 with h4 | h4
      · exact .inl (h4 ▸ hg)
      · rw [h4] at hg; simp at hg; exact .inr (by omega)
    exact ⟨v', w', hr', by unfold Ow; rw [cl_append, List.length_append, hl]; exact h1, hbut, hspr, h4⟩
/-- What an append leaves. -/
def AppSt (et : TypeId) (k : Nat) (enc : α → List Value) (base : Nat) (w : World) (v : Value) (Z' : List α) (v' : Value) (w' : World) : Prop :=
  Ow et k enc base w' v' Z' ∧ But (foot v) w w' ∧ Sprung w v v'
theorem wpList_append_ow {P : Program} {ops : Array Oper} {rest : List Oper} {o : Oper} {a : Act} {Q : Exit → Act → World → Prop} (hgd : o.guard = none) (T : TypeId) (s x : Operand)
    (ho : o.op = .call { callee := .builtin .append, args := #[s, x], argTypes := #[T, T] }) (E : Enc k enc)
    (ht : P.underlying T = some (.slice et)) {zero : Value} {bytes : Nat} (hi : (P.info? et).map (fun i => (i.zero, i.size, i.bytes)) = some (some zero, k, bytes)) (hz : zero.cells.size = k)
    (hs : a.eval s = v) (hown : Ow et k enc base w v Z) (A : Option Addr) (m c : Nat) (l : List α) (hx : a.eval x = .slice A m c) (hB : Sl k enc w A m c l)
    (hbytes : (Z.length + l.length) * bytes ≤ 140737488355328) (hsm : Z.length + l.length ≤ 1000000000) (hbase : base ≤ w.heap.size)
    (h : ∀ v' w', AppSt et k enc base w v (Z ++ l) v' w' → wpList P ops Q rest (a.put o.dst v') w') : wpList P ops Q (o :: rest) a w := by
  refine wpList_plain hgd fun K hK => ?_
  obtain ⟨v', w', hr, h2, h3, h4, _⟩ := run_append_ow (P := P) E T o.type ht hi hz hown A m c l hB hbytes hsm hbase
  unfold Oper.wp execOp
  simp only [ho, resolve, invoke, builtin, Sem.run_bind, Sem.run_pure, Result.andThen_ok, List.map_toArray, List.map_cons, List.map_nil, hs, hx, hr]
  exact hK _ _ (h v' w' ⟨h2, h3, h4⟩)
/-- One element in a new slice. -/
theorem Sl.one (E : Enc k enc) (w : World) (x : α) (cs : Array Value) (h : cs.toList = enc x) : Sl k enc (w.alloc (.cells cs et)) (some ⟨w.heap.size, 0, none⟩) 1 1 [x] :=
  ⟨rfl, Nat.le_refl _, by omega, by simp, fun _ => ⟨w.heap.size, 0, rfl, by simp, fun i y hy j u hu => by
    have hi : i = 0 := by have := (List.getElem?_eq_some_iff.1 hy).1; simp at this; omega
    subst hi
    simp at hy
    subst hy
    rw [Lib.cell_of_heap (heap_alloc_new w _), Nat.zero_mul, Nat.zero_add]
    rw [← h] at hu
    simpa using hu⟩⟩
end
end Go.Proofs.YthpiobkghfdkkaaGreat

namespace Go.Proofs.YthpiobkghfdkkaaGreat
open Go.RowKit
set_option linter.unusedVariables false

/-- Every cell of v's own block is one of Pv. -/
def OwP (Pv : Value → Prop) (w : World) (v : Value) : Prop := ∀ g, v.ownBlock = some g → ∀ cs T q, w.heap[g]? = some (.cells cs T q) → ∀ u ∈ cs.toList, Pv u
theorem OwP.none_ (Pv : Value → Prop) (w : World) (n c : Nat) : OwP Pv w (.slice none n c) := fun g hg => by simp [Value.ownBlock] at hg
theorem zero_pure {Pv : Value → Prop} (z : Array Value) (n : Nat) (h : ∀ u ∈ z.toList, Pv u) : ∀ u ∈ (Builtin.zeroCells z n).toList, Pv u := fun u hu => by
  unfold Builtin.zeroCells at hu
  rw [Array.toList_map] at hu
  obtain ⟨j, hj, rfl⟩ := List.mem_map.1 hu
  have hs : 0 < z.size := by
    have h1 : j < n * z.size := by simpa using hj
    rcases Nat.eq_zero_or_pos z.size with h0 | h0
    · rw [h0] at h1; omega
    · exact h0
  have hlt := Nat.mod_lt j hs
  refine h _ ?_
  rw [getElem!_pos z (j % z.size) hlt]
  exact Array.mem_toList_iff.2 (Array.getElem_mem hlt)

theorem run_append_pure {P : Program} (Pv : Value → Prop) (base : Nat) (T ty et : TypeId) (i : TypeInfo) (z : Value) (ht : P.underlying T = some (.slice et)) (hi : P.info? et = some i) (hz : i.zero = some z)
    (hzs : z.cells.size = i.size) (v : Value) (n : Nat) (xs : List Value) {w : World} (hown : w.ownsRow base et i.size v n xs)
    (a : Addr) (m c : Nat) (news : List Value) (hl : news.length = m * i.size) (hnews : ∀ j u, news[j]? = some u → w.cell? (a.add j) = some u) (h1 : ∀ u ∈ news, u.oneCell' = true)
    (h63 : n + m ≤ maxLen) (hbytes : (n + m) * i.bytes ≤ 140737488355328) (hm : 0 < m)
    (hzp : ∀ u ∈ z.cells.toList, Pv u) (hnp : ∀ u ∈ news, Pv u) (hold : OwP Pv w v) {v' : Value} {w' : World} (hr : (Builtin.append_ #[T, T] ty #[v, .slice (some a) m c]).run P w = .ok v' w') : OwP Pv w' v' := by
  have hsmall : n + m ≤ 9223372036854775807 := by simp only [maxLen] at h63; omega
  rcases hown.2 with ⟨rfl, rfl⟩ | ⟨g, cap, cur, rfl, hbg, hg, hnc, hcm, hcs, htake⟩
  · have h2 := run_append_nil (P := P) w T ty et i z ht hi hz a m c news hl hnews hm (by omega) (by have hb := hbytes; simp only [Nat.zero_add] at hb; omega)
    rw [h2] at hr
    injection hr with e1 e2
    subst e1; subst e2
    intro g hg cs T' q hb u hu
    simp only [Value.ownBlock, Option.some.injEq] at hg
    subst hg
    have hb := Option.some.inj ((heap_alloc_new w.drew _).symm.trans hb)
    injection hb with hb _ _
    subst hb
    rw [Array.toList_append] at hu
    rcases List.mem_append.1 hu with hu | hu
    · exact hnp u hu
    · exact zero_pure _ _ hzp u hu
  · have hpc : ∀ u ∈ cur.toList, Pv u := hold g rfl _ _ _ hg
    by_cases hroom : n + m ≤ cap
    · have hfit : n * i.size + news.length ≤ cur.size := by rw [hl, hcs, ← Nat.add_mul]; exact Nat.mul_le_mul_right _ hroom
      have h2 := run_append_room (P := P) w T ty et i ht hi g n cap cur hg a m c news hl hnews h1 hroom hfit
      rw [h2] at hr
      injection hr with e1 e2
      subst e1; subst e2
      intro g' hg' cs T' q hb u hu
      simp only [Value.ownBlock, Option.some.injEq] at hg'
      subst hg'
      rw [setRow_heap w g cur _ et _ hg] at hb
      injection hb with hb
      injection hb with hb _ _
      subst hb
      rcases List.mem_append.1 hu with hu | hu
      · rcases List.mem_append.1 hu with hu | hu
        · exact hpc u (List.mem_of_mem_take hu)
        · exact hnp u hu
      · exact hpc u (List.mem_of_mem_drop hu)
    · have holds : ∀ j u, xs[j]? = some u → w.cell? ((⟨g, 0, none⟩ : Addr).add j) = some u := hown.cells (g := g) rfl
      have h2 := run_append_grow (P := P) w T ty et i z ht hi hz ⟨g, 0, none⟩ n cap xs hown.1 holds a m c news hl hnews (by omega) (by omega) (growslice_fits (by omega) hbytes)
      rw [h2] at hr
      injection hr with e1 e2
      subst e1; subst e2
      intro g' hg' cs T' q hb u hu
      simp only [Value.ownBlock, Option.some.injEq] at hg'
      subst hg'
      have hb := Option.some.inj ((heap_alloc_new w.drew _).symm.trans hb)
      injection hb with hb _ _
      subst hb
      rw [Array.toList_append, Array.toList_append] at hu
      rcases List.mem_append.1 hu with hu | hu
      · rcases List.mem_append.1 hu with hu | hu
        · exact hpc u (by have h3 : u ∈ cur.toList.take (n * i.size) := (by rw [htake]; exact hu); exact List.mem_of_mem_take h3)
        · exact hnp u hu
      · exact zero_pure _ _ hzp u hu
theorem cl_mem {α : Type} {enc : α → List Value} : ∀ {l : List α} {u : Value}, u ∈ cl enc l → ∃ x ∈ l, u ∈ enc x := by
  intro l u hu
  unfold cl at hu
  obtain ⟨x, hx, h⟩ := List.mem_flatMap.1 hu
  exact ⟨x, hx, h⟩
/-- append of a slice that is not empty onto a slice of the call's own, with what all cells of its block are. -/
theorem wpList_append_owp {α : Type} {k : Nat} {enc : α → List Value} {et : TypeId} {base : Nat} {w : World} {v : Value} {Z : List α} {P : Program} {ops : Array Oper} {rest : List Oper} {o : Oper} {act : Act} {Q : Exit → Act → World → Prop} (Pv : Value → Prop) (hgd : o.guard = none) (T : TypeId) (s x : Operand)
    (ho : o.op = .call { callee := .builtin .append, args := #[s, x], argTypes := #[T, T] }) (E : Enc k enc)
    (ht : P.underlying T = some (.slice et)) {zero : Value} {bytes : Nat} (hi : (P.info? et).map (fun i => (i.zero, i.size, i.bytes)) = some (some zero, k, bytes)) (hz : zero.cells.size = k)
    (hs : act.eval s = v) (hown : Ow et k enc base w v Z) (A : Option Addr) (m c : Nat) (l : List α) (hx : act.eval x = .slice A m c) (hB : Sl k enc w A m c l)
    (hbytes : (Z.length + l.length) * bytes ≤ 140737488355328) (hsm : Z.length + l.length ≤ 1000000000) (hbase : base ≤ w.heap.size)
    (hm : 0 < m) (hzp : ∀ u ∈ zero.cells.toList, Pv u) (hnp : ∀ x ∈ l, ∀ u ∈ enc x, Pv u) (hold : OwP Pv w v)
    (h : ∀ v' w', AppSt et k enc base w v (Z ++ l) v' w' ∧ OwP Pv w' v' → wpList P ops Q rest (act.put o.dst v') w') : wpList P ops Q (o :: rest) act w := by
  refine wpList_plain hgd fun K hK => ?_
  obtain ⟨v', w', hr, h2, h3, h4, _⟩ := run_append_ow (P := P) E T o.type ht hi hz hown A m c l hB hbytes hsm hbase
  obtain ⟨i, hi0, hz', hsz, hby⟩ := info_parts hi
  have hl := hB.len
  obtain ⟨b, off, e, _, hc⟩ := hB.rd hm
  have hcells : ∀ j u, (cl enc l)[j]? = some u → w.cell? ((⟨b, off, none⟩ : Addr).add j) = some u := by
    intro q u hu
    obtain ⟨i', j', x, rfl, hx, hxu⟩ := cl_back E l q u hu
    have := hc i' x hx j' u hxu
    rw [Addr.add_lit]
    rwa [show off + i' * k + j' = off + (i' * k + j') by omega] at this
  subst e
  have hp := run_append_pure (P := P) Pv base T o.type et i zero ht hi0 hz' (by rw [hz, hsz]) v Z.length (cl enc Z) (by rw [hsz]; exact hown) ⟨b, off, none⟩ m c (cl enc l) (by rw [cl_length E, hl, hsz]) hcells (cl_one E l) (by unfold maxLen; omega) (by rw [← hl, hby]; exact hbytes) hm hzp (fun u hu => by obtain ⟨x, hx, h⟩ := cl_mem hu; exact hnp x hx u h) hold hr
  unfold Oper.wp execOp
  simp only [ho, resolve, invoke, builtin, Sem.run_bind, Sem.run_pure, Result.andThen_ok, List.map_toArray, List.map_cons, List.map_nil, hs, hx, hr]
  exact hK _ _ (h v' w' ⟨⟨h2, h3, h4⟩, hp⟩)
end Go.Proofs.YthpiobkghfdkkaaGreat
