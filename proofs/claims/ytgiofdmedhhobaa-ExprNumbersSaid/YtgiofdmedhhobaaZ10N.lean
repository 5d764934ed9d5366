/-
  Texts that belong together: Package sexp: texts. Package sexp: tokens. Trees in memory; the list of what is open. Package sexp: whole, judge. Own slices of any elements: what they hold, append of any slice onto them, a store into one cell, '[:m]'.
-/
import Derived.ScopeJumps
import Derived.Deep.Cut
import Derived.Test.YtgiofdmedhhobaaZ9N
namespace Go.Proofs.Ytgiofdmedhhobaa
open Go.RowKit
set_option linter.unusedVariables false

/-- A scope with one label to which it jumps back: what holds there is said of the slots s; the code behind the label is walked once. -/
theorem wp_scope_once {P : Program} {c R : Code} {Q : Exit → Act → World → Prop} {a : Act} {w : World} (l n : Nat) (JJ : (Nat → Value) → World → Prop) (μ : (Nat → Value) → World → Nat) (hf : findLabel c l = some (.seq .skip R))
    (pass : ∀ s w, JJ s w → R.wp P (Exit.jump l (fun a' w' => (a'.defers = [] ∧ a'.tmps.size = n ∧ JJ (fun d => a'.eval (.tmp d)) w') ∧ μ (fun d => a'.eval (.tmp d)) w' < μ s w) Q) ⟨((List.range n).map s).toArray, []⟩ w)
    (first : (∀ (a : Act) w, a.defers = [] → a.tmps.size = n → JJ (fun d => a.eval (.tmp d)) w → R.wp P (Exit.jump l (fun a' w' => a'.defers = [] ∧ a'.tmps.size = n ∧ JJ (fun d => a'.eval (.tmp d)) w') Q) a w) →
      c.wp P (Exit.jump l (fun a' w' => a'.defers = [] ∧ a'.tmps.size = n ∧ JJ (fun d => a'.eval (.tmp d)) w') Q) a w) : (Code.scope c).wp P Q a w := by
  have pass' : ∀ (a : Act) w, (a.defers = [] ∧ a.tmps.size = n ∧ JJ (fun d => a.eval (.tmp d)) w) → R.wp P (Exit.jump l (fun a' w' => (a'.defers = [] ∧ a'.tmps.size = n ∧ JJ (fun d => a'.eval (.tmp d)) w') ∧ (fun (a : Act) w => μ (fun d => a.eval (.tmp d)) w) a' w' < (fun (a : Act) w => μ (fun d => a.eval (.tmp d)) w) a w) Q) a w := by
    rintro a w ⟨h1, h2, h3⟩
    have := pass (fun d => a.eval (.tmp d)) w h3
    have e : a = ⟨((List.range n).map fun d => a.eval (.tmp d)).toArray, []⟩ := by rw [← h1]; exact frame_eq h2
    rw [← e] at this
    exact this
  refine wp_scope_jumps l _ (fun a w => μ (fun d => a.eval (.tmp d)) w) hf (first fun a w h1 h2 h3 => Code.wp_mono ?_ (pass' a w ⟨h1, h2, h3⟩)) (fun a w h => wp_seq (wp_skip (pass' a w h)))
  intro e a' w' h
  cases e with
  | goto l' => exact ⟨h.1, h.2.1⟩
  | _ => exact h

theorem sxText_esc (B : By) (c : UInt8) (q : By) (i : Nat) (hp : sxPlain c = false) (hc : c.toNat = 92) : sxTextGo B (c :: q) i =
    if (sxEscaped q).2 = 0 then sxTextGo (B ++ [(sxEscaped q).1]) (q.drop 2) (i + 3) else if (sxEscaped q).2 = 10 then sxWrong 10 (i + 1 + q.length) else sxWrong 12 i := by
  conv => lhs; unfold sxTextGo
  rw [hp]
  simp only [Bool.false_eq_true, if_false, hc]
  cases q with
  | nil => simp [sxEscaped]
  | cons x q1 =>
    cases hx : sxHex x with
    | none => simp [sxEscaped, hx]
    | some a =>
      cases q1 with
      | nil => simp [sxEscaped, hx]
      | cons y q2 =>
        cases hy : sxHex y with
        | none => simp [sxEscaped, hx, hy]
        | some b => simp [sxEscaped, hx, hy]
theorem sxEsc_why (q : By) : (sxEscaped q).2 = 0 ∨ (sxEscaped q).2 = 10 ∨ (sxEscaped q).2 = 12 := by
  cases q with
  | nil => simp [sxEscaped]
  | cons x q1 =>
    cases hx : sxHex x with
    | none => simp [sxEscaped, hx]
    | some a =>
      cases q1 with
      | nil => simp [sxEscaped, hx]
      | cons y q2 =>
        cases hy : sxHex y with
        | none => simp [sxEscaped, hx, hy]
        | some b => simp [sxEscaped, hx, hy]

theorem sxEsc_len (q : By) : (sxEscaped q).2 = 0 → 2 ≤ q.length := by
  cases q with
  | nil => simp [sxEscaped]
  | cons x q1 =>
    cases q1 with
    | nil => cases hx : sxHex x <;> simp [sxEscaped, hx]
    | cons y q2 => intro _; simp
theorem sx_made_byte (w : World) (x : UInt8) : Bs (w.alloc (.cells #[.int .u8 (x.toNat : Int)] 5)) (some ⟨w.heap.size, 0, none⟩) 1 1 [x] := Bs.made [x] _ rfl (by simp)
theorem sx_drop_cons (l : By) (j : Nat) (c : UInt8) (h : l[j]? = some c) : l.drop j = c :: l.drop (j + 1) := by
  obtain ⟨hj, e⟩ := List.getElem?_eq_some_iff.1 h
  rw [List.drop_eq_getElem_cons hj, e]

end Go.Proofs.Ytgiofdmedhhobaa

namespace Go.Proofs.Ytgiofdmedhhobaa
open Go.RowKit
set_option linter.unusedVariables false

end Go.Proofs.Ytgiofdmedhhobaa

namespace Go.Proofs.Ytgiofdmedhhobaa
open Go.RowKit
set_option linter.unusedVariables false

/-- A tree as it lies in memory: beside the tree where its Kids lie. -/
inductive M where
  | mk (kind : Int) (s : By) (n : Int) (A : Option Addr) (cap : Nat) (kids : List M) (pos : Nat) : M
def M.kind : M → Int
  | .mk k _ _ _ _ _ _ => k
def M.s : M → By
  | .mk _ s _ _ _ _ _ => s
def M.n : M → Int
  | .mk _ _ n _ _ _ _ => n
def M.A : M → Option Addr
  | .mk _ _ _ a _ _ _ => a
def M.cap : M → Nat
  | .mk _ _ _ _ c _ _ => c
def M.kids : M → List M
  | .mk _ _ _ _ _ l _ => l
def M.pos : M → Nat
  | .mk _ _ _ _ _ _ p => p
mutual
def M.t : M → T
  | .mk k s n _ _ l p => .mk k s n (M.ts l) p
def M.ts : List M → List T
  | [] => []
  | m :: l => m.t :: M.ts l
end
theorem M.ts_map : ∀ l : List M, M.ts l = l.map M.t
  | [] => by simp [M.ts]
  | m :: l => by simp [M.ts, M.ts_map l]
theorem M.t_eq (m : M) : m.t = .mk m.kind m.s m.n (m.kids.map M.t) m.pos := by
  cases m
  simp [M.t, M.ts_map, M.kind, M.s, M.n, M.kids, M.pos]
theorem M.t_kids (m : M) : m.t.kids = m.kids.map M.t := by rw [M.t_eq]; rfl
theorem M.t_kind (m : M) : m.t.kind = m.kind := by rw [M.t_eq]; rfl
theorem M.t_pos (m : M) : m.t.pos = m.pos := by rw [M.t_eq]; rfl
def M.kv (m : M) : Value := .slice m.A m.kids.length m.cap
def mc (m : M) : List Value := [.int .i64 m.kind, .string ⟨m.s.toArray⟩, .int .i64 m.n, m.kv, .int .i64 (m.pos : Int)]
def mv (m : M) : Value := .agg #[.int .i64 m.kind, .string ⟨m.s.toArray⟩, .int .i64 m.n, m.kv, .int .i64 (m.pos : Int)]
abbrev Ms := Sl 5 mc

def mlist (l : List M) : List Value := l.flatMap mc
theorem mlist_length (l : List M) : (mlist l).length = l.length * 5 := by
  induction l with
  | nil => rfl
  | cons x l ih =>
    have : (mlist (x :: l)).length = 5 + (mlist l).length := by simp [mlist, mc]; omega
    rw [this, ih, List.length_cons]; omega
theorem mlist_append (l m : List M) : mlist (l ++ m) = mlist l ++ mlist m := by simp [mlist]
theorem mlist_one_ (m : M) : mlist [m] = mc m := by simp [mlist]
theorem mlist_get : ∀ (l : List M) (i : Nat) (x : M), l[i]? = some x → ∀ j u, (mc x)[j]? = some u → (mlist l)[i * 5 + j]? = some u
  | [], _, _, h, _, _, _ => by simp at h
  | y :: l, 0, x, h, j, u, hu => by
    simp at h
    subst h
    have hj : j < 5 := (List.getElem?_eq_some_iff.1 hu).1
    have e : mlist (y :: l) = mc y ++ mlist l := rfl
    rw [e, Nat.zero_mul, Nat.zero_add, List.getElem?_append_left (by simpa [mc] using hj)]
    exact hu
  | y :: l, i + 1, x, h, j, u, hu => by
    have e : mlist (y :: l) = mc y ++ mlist l := rfl
    have hl : (mc y).length = 5 := rfl
    rw [e, List.getElem?_append_right (by rw [hl]; omega), hl, show (i + 1) * 5 + j - 5 = i * 5 + j by omega]
    exact mlist_get l i x (by simpa using h) j u hu
theorem mlist_ones (l : List M) : ∀ u ∈ mlist l, u.oneCell' = true := by
  intro u hu
  obtain ⟨x, _, hx⟩ := List.mem_flatMap.1 hu
  simp [mc, M.kv] at hx
  rcases hx with rfl | rfl | rfl | rfl | rfl <;> rfl

/-- A tree lies in memory, all of it in blocks that are not of K. -/
inductive Lies (b0 : Nat) (K : List Nat) (w : World) : M → Prop
  | mk {kind : Int} {s : By} {n : Int} {A : Option Addr} {cap : Nat} {kids : List M} {pos : Nat} : Ms w A kids.length cap kids → (∀ ad, A = some ad → b0 ≤ ad.block ∧ ad.block < w.heap.size ∧ ad.block ∉ K) → (∀ k ∈ kids, Lies b0 K w k) →
      Lies b0 K w (.mk kind s n A cap kids pos)
theorem Lies.ms {b0 : Nat} {K : List Nat} {w : World} {m : M} (h : Lies b0 K w m) : Ms w m.A m.kids.length m.cap m.kids := by
  cases h with
  | mk h1 h2 h3 => exact h1
theorem Lies.kid {b0 : Nat} {K : List Nat} {w : World} {m : M} (h : Lies b0 K w m) : ∀ k ∈ m.kids, Lies b0 K w k := by
  cases h with
  | mk h1 h2 h3 => exact h3
theorem Lies.move {b0 : Nat} {K K' : List Nat} {w w' : World} {m : M} (h : Lies b0 K w m) (hb : But K w w') (hs : ∀ x ∈ K', x ∈ K ∨ x < b0 ∨ w.heap.size ≤ x) : Lies b0 K' w' m := by
  induction h with
  | mk h1 h2 h3 ih =>
    refine .mk (h1.but hb fun ad e => (h2 ad e).2.2) (fun ad e => ⟨(h2 ad e).1, Nat.lt_of_lt_of_le (h2 ad e).2.1 hb.size, fun hm => ?_⟩) ih
    rcases hs _ hm with h4 | h4 | h4
    · exact (h2 ad e).2.2 h4
    · have := (h2 ad e).1; omega
    · have := (h2 ad e).2.1; omega
theorem Lies.ev {b0 : Nat} {K : List Nat} {w w' : World} {m : M} (h : Lies b0 K w m) (hE : Ev w w') : Lies b0 K w' m := h.move (But.of_ev hE) fun _ hx => .inl hx
theorem Lies.low {b0 b1 : Nat} {K : List Nat} {w : World} {m : M} (h : Lies b1 K w m) (hb : b0 ≤ b1) : Lies b0 K w m := by
  induction h with
  | mk h1 h2 h3 ih => exact .mk h1 (fun ad e => ⟨Nat.le_trans hb (h2 ad e).1, (h2 ad e).2⟩) ih
theorem Lies.less {b0 : Nat} {K K' : List Nat} {w : World} {m : M} (h : Lies b0 K w m) (hs : ∀ x ∈ K', x ∈ K ∨ x < b0 ∨ w.heap.size ≤ x) : Lies b0 K' w m := h.move (But.refl _ _) hs

/-- The blocks that may turn while v is the list of what is open. -/
def blk (v : Value) (os : List M) : List Nat := foot v ++ os.flatMap fun e => foot e.kv
structure Opn (base : Nat) (w : World) (v : Value) (os : List M) : Prop where
  own : w.ownsRow base 45 5 v os.length (mlist os)
  kid : ∀ e ∈ os, w.ownsRow base 45 5 e.kv e.kids.length (mlist e.kids)
  nd : (blk v os).Nodup
  lies : ∀ e ∈ os, ∀ m ∈ e.kids, Lies base (blk v os) w m
theorem own_but {K : List Nat} {w w' : World} {base : Nat} {e : TypeId} {size : Nat} {v : Value} {n : Nat} {xs : List Value} (h : w.ownsRow base e size v n xs) (hb : But K w w') (hn : ∀ g, v.ownBlock = some g → g ∉ K) : w'.ownsRow base e size v n xs := by
  refine ⟨h.1, ?_⟩
  rcases h.2 with h2 | ⟨g, cap, cur, rfl, hg, hh, r⟩
  · exact .inl h2
  · exact .inr ⟨g, cap, cur, rfl, hg, hb.heap hh (hn g rfl), r⟩
theorem mem_blk {v : Value} {os : List M} {g : Nat} : g ∈ blk v os ↔ v.ownBlock = some g ∨ ∃ e ∈ os, e.kv.ownBlock = some g := by
  unfold blk
  simp [mem_foot]
theorem Opn.range {base : Nat} {w : World} {v : Value} {os : List M} (h : Opn base w v os) {g : Nat} (hg : g ∈ blk v os) : base ≤ g ∧ g < w.heap.size := by
  rcases mem_blk.1 hg with h1 | ⟨e, he, h1⟩
  · exact h.own.lt g h1
  · exact (h.kid e he).lt g h1
theorem Opn.ev {base : Nat} {w w' : World} {v : Value} {os : List M} (h : Opn base w v os) (hE : Ev w w') : Opn base w' v os :=
  ⟨own_ev h.own hE, fun e he => own_ev (h.kid e he) hE, h.nd, fun e he m hm => (h.lies e he m hm).ev hE⟩
/-- The list's own cells. -/
theorem Opn.at {base : Nat} {w : World} {v : Value} {os : List M} (h : Opn base w v os) (h0 : os ≠ []) : ∃ g cap, v = .slice (some ⟨g, 0, none⟩) os.length cap ∧ os.length ≤ cap ∧ cap ≤ 9223372036854775807 ∧ base ≤ g ∧ g < w.heap.size ∧ (∀ i, w.frozen? ⟨g, i, none⟩ = false) ∧
    ∀ i x, os[i]? = some x → w.cell? ⟨g, i * 5, none⟩ = some (.int .i64 x.kind) ∧ w.cell? ⟨g, i * 5 + 1, none⟩ = some (.string ⟨x.s.toArray⟩) ∧ w.cell? ⟨g, i * 5 + 2, none⟩ = some (.int .i64 x.n) ∧ w.cell? ⟨g, i * 5 + 3, none⟩ = some x.kv ∧ w.cell? ⟨g, i * 5 + 4, none⟩ = some (.int .i64 (x.pos : Int)) := by
  rcases h.own.2 with ⟨_, hn⟩ | ⟨g, cap, cur, rfl, hg, hh, hnc, hcm, hcs, ht⟩
  · exact absurd (List.eq_nil_of_length_eq_zero hn) h0
  · refine ⟨g, cap, rfl, hnc, by simpa [maxLen] using hcm, hg, (Array.getElem?_eq_some_iff.1 hh).1, fun i => Lib.frozen_of_heap hh i, fun i x hx => ?_⟩
    have hi := (List.getElem?_eq_some_iff.1 hx).1
    have key : ∀ j u, (mc x)[j]? = some u → w.cell? ⟨g, i * 5 + j, none⟩ = some u := fun j u hu => by
      have hj : j < 5 := (List.getElem?_eq_some_iff.1 hu).1
      rw [World.ownsRow.cellAt h.own (i * 5 + j) (by omega)]
      exact mlist_get os i x hx j u hu
    exact ⟨key 0 _ rfl, key 1 _ rfl, key 2 _ rfl, key 3 _ rfl, key 4 _ rfl⟩
/-- A slice of trees: element i. -/
theorem Ms.cell {w : World} {A : Option Addr} {n cap : Nat} {l : List M} (h : Ms w A n cap l) {i : Nat} {x : M} (hx : l[i]? = some x) : ∃ b off, A = some ⟨b, off, none⟩ ∧ b < w.heap.size ∧
    w.cell? ⟨b, off + i * 5, none⟩ = some (.int .i64 x.kind) ∧ w.cell? ⟨b, off + i * 5 + 1, none⟩ = some (.string ⟨x.s.toArray⟩) ∧ w.cell? ⟨b, off + i * 5 + 2, none⟩ = some (.int .i64 x.n) ∧ w.cell? ⟨b, off + i * 5 + 3, none⟩ = some x.kv ∧ w.cell? ⟨b, off + i * 5 + 4, none⟩ = some (.int .i64 (x.pos : Int)) := by
  have hi := (List.getElem?_eq_some_iff.1 hx).1
  have hl := h.len
  obtain ⟨b, off, e, hlt, hc⟩ := h.rd (by omega)
  exact ⟨b, off, e, hlt, hc i x hx 0 _ rfl, hc i x hx 1 _ rfl, hc i x hx 2 _ rfl, hc i x hx 3 _ rfl, hc i x hx 4 _ rfl⟩
/-- An own row of trees reads as a slice. -/
theorem own_ms {w : World} {base : Nat} {A : Option Addr} {n cap : Nat} {l : List M} (h : w.ownsRow base 45 5 (.slice A n cap) n (mlist l)) : Ms w A n cap l := by
  have hl : l.length = n := by have := h.1; rw [mlist_length] at this; omega
  rcases h.2 with ⟨hv, hn⟩ | ⟨g, c, cur, hv, hg, hh, hnc, hcm, hcs, ht⟩
  · injection hv with h1 h2 h3
    subst h1; subst h2; subst h3
    exact ⟨hl, Nat.le_refl _, by omega, fun _ => ⟨rfl, rfl⟩, fun h0 => absurd h0 (by omega)⟩
  · injection hv with h1 h2 h3
    subst h1; subst h3
    refine ⟨hl, hnc, by simpa [maxLen] using hcm, by simp, fun h0 => ⟨g, 0, rfl, (Array.getElem?_eq_some_iff.1 hh).1, fun i x hx j u hu => ?_⟩⟩
    have hi := (List.getElem?_eq_some_iff.1 hx).1
    have hj : j < 5 := (List.getElem?_eq_some_iff.1 hu).1
    have := World.ownsRow.cellAt h (i * 5 + j) (by omega)
    rw [Nat.zero_add, this]
    exact mlist_get l i x hx j u hu

end Go.Proofs.Ytgiofdmedhhobaa

namespace Go.Proofs.Ytgiofdmedhhobaa
open Go.RowKit
set_option linter.unusedVariables false

theorem Try.sizeTree : (Try.prog.info? 45).map (·.size) = some 5 := by kernel_rfl
theorem results_cell2 {P : Program} {fn : Func} {p u1 u2 : Tmp} {ty : TypeId} (h : fn.results = #[.cell p ty, .tmp u1, .tmp u2]) (tmps : Array Value) (w : World) (g : Nat) (t : TypeId) (cs : Array Value) (fr : Nat × Nat) (d : TypeDesc)
    (hp : tmps.getD p undef = .pointer (some ⟨g, 0, none⟩)) (hg : w.heap[g]? = some (.cells cs t fr))
    (hu : P.underlying ty = some d) (hd : (match d with | .struct _ | .array _ _ => true | _ => false) = true) (hi : (P.info? ty).map (·.size) = some cs.size) :
    (results fn tmps).run P w = .ok (.tuple #[.agg cs, tmps.getD u1 undef, tmps.getD u2 undef]) w := by
  have hp' : tmps[p]?.getD undef = .pointer (some ⟨g, 0, none⟩) := by simpa using hp
  simp [results, h, hp', asAddr, run_loadVar_row w g t ty cs fr d hg hu hd hi]
/-- A tree in its own box. -/
def mraw (k n p : Int) (s : ByteArray) (v : Value) : Array Value := #[.int .i64 k, .string s, .int .i64 n, v, .int .i64 p]
theorem ret_tree2 {fn : Func} {p u1 u2 : Tmp} (h : fn.results = #[.cell p 45, .tmp u1, .tmp u2]) (tmps : Array Value) (w : World) (g : Nat) (k n q : Int) (s : ByteArray) (v : Value)
    (hp : tmps.getD p undef = .pointer (some ⟨g, 0, none⟩)) (hg : w.heap[g]? = some (.cells (mraw k n q s v) 45 (0, 0))) :
    (results fn tmps).run Try.prog w = .ok (.tuple #[.agg (mraw k n q s v), tmps.getD u1 undef, tmps.getD u2 undef]) w :=
  results_cell2 h tmps w g 45 _ _ _ hp hg Try.underlying45 rfl Try.sizeTree
def mzero : M := .mk 0 [] 0 none 0 [] 0
theorem Lies.zero (b0 : Nat) (K : List Nat) (w : World) : Lies b0 K w mzero := .mk (Sl.nil_ w) (fun _ h => by cases h) (fun _ h => by cases h)

def sxJudgeB (D : Bool) (q : Nat) (x : Tk) : Int × Nat :=
  if !(x.why == 0) && !(D && decide (0 < x.fault)) then (x.why, x.fault)
  else if x.kind == -1 && q == 1 then (12, 0)
  else if !(x.kind == -1) && D then (11, 0)
  else if x.kind == 1 && decide (12 < q) then (14, 0)
  else (0, 0)
theorem sxJudge_b (os : List T) (x : Tk) : sxJudge os x = sxJudgeB (sxDone os) os.length x := rfl

end Go.Proofs.Ytgiofdmedhhobaa

namespace Go.Proofs.Ytgiofdmedhhobaa
open Go.RowKit
set_option linter.unusedVariables false

/-- All cells of a list of elements. -/
def cl {α : Type} (enc : α → List Value) (l : List α) : List Value := l.flatMap enc
structure Enc {α : Type} (k : Nat) (enc : α → List Value) : Prop where
  pos : 0 < k
  len : ∀ x, (enc x).length = k
  one : ∀ x, ∀ u ∈ enc x, u.oneCell' = true
section
variable {α : Type} {k : Nat} {enc : α → List Value}
theorem cl_append (l m : List α) : cl enc (l ++ m) = cl enc l ++ cl enc m := by simp [cl]
theorem cl_cons (x : α) (l : List α) : cl enc (x :: l) = enc x ++ cl enc l := rfl
theorem cl_length (E : Enc k enc) (l : List α) : (cl enc l).length = l.length * k := by
  induction l with
  | nil => simp [cl]
  | cons x l ih => rw [cl_cons, List.length_append, E.len, ih, List.length_cons, Nat.add_mul, Nat.one_mul, Nat.add_comm]
theorem cl_get (E : Enc k enc) : ∀ (l : List α) (i : Nat) (x : α), l[i]? = some x → ∀ j u, (enc x)[j]? = some u → (cl enc l)[i * k + j]? = some u
  | [], _, _, h, _, _, _ => by simp at h
  | y :: l, 0, x, h, j, u, hu => by
    simp at h
    subst h
    have hj := (List.getElem?_eq_some_iff.1 hu).1
    rw [cl_cons, Nat.zero_mul, Nat.zero_add, List.getElem?_append_left hj]
    exact hu
  | y :: l, i + 1, x, h, j, u, hu => by
    rw [cl_cons, List.getElem?_append_right (by rw [E.len, Nat.add_mul]; omega), E.len, show (i + 1) * k + j - k = i * k + j by rw [Nat.add_mul]; omega]
    exact cl_get E l i x (by simpa using h) j u hu
theorem cl_back (E : Enc k enc) : ∀ (l : List α) (q : Nat) (u : Value), (cl enc l)[q]? = some u → ∃ i j x, q = i * k + j ∧ l[i]? = some x ∧ (enc x)[j]? = some u
  | [], q, u, h => by simp [cl] at h
  | y :: l, q, u, h => by
    rw [cl_cons] at h
    by_cases hq : q < k
    · rw [List.getElem?_append_left (by rw [E.len]; exact hq)] at h
      exact ⟨0, q, y, by omega, rfl, h⟩
    · rw [List.getElem?_append_right (by rw [E.len]; omega), E.len] at h
      obtain ⟨i, j, x, h1, h2, h3⟩ := cl_back E l (q - k) u h
      exact ⟨i + 1, j, x, by rw [Nat.add_mul]; omega, by simpa using h2, h3⟩
theorem cl_one (E : Enc k enc) (l : List α) : ∀ u ∈ cl enc l, u.oneCell' = true := by
  intro u hu
  obtain ⟨x, _, hx⟩ := List.mem_flatMap.1 hu
  exact E.one x u hx
theorem cl_set (E : Enc k enc) : ∀ (l : List α) (i j : Nat) (x x' : α) (u : Value), l[i]? = some x → j < k → enc x' = (enc x).set j u → (cl enc l).set (i * k + j) u = cl enc (l.set i x')
  | [], i, j, x, x', u, h, _, _ => by simp at h
  | y :: l, 0, j, x, x', u, h, hj, he => by
    simp at h
    subst h
    rw [List.set_cons_zero, cl_cons, cl_cons, he, Nat.zero_mul, Nat.zero_add, List.set_append_left _ _ (by rw [E.len]; exact hj)]
  | y :: l, i + 1, j, x, x', u, h, hj, he => by
    rw [List.set_cons_succ, cl_cons, cl_cons, List.set_append_right _ _ (by rw [E.len, Nat.add_mul]; omega), E.len, show (i + 1) * k + j - k = i * k + j by rw [Nat.add_mul]; omega]
    rw [cl_set E l i j x x' u (by simpa using h) hj he]
theorem cl_take (E : Enc k enc) : ∀ (l : List α) (m : Nat), (cl enc l).take (m * k) = cl enc (l.take m)
  | [], m => by simp [cl]
  | y :: l, 0 => by simp [cl]
  | y :: l, m + 1 => by
    rw [List.take_succ_cons, cl_cons, cl_cons, List.take_append, E.len, List.take_of_length_le (by rw [E.len, Nat.add_mul]; omega), show (m + 1) * k - k = m * k by rw [Nat.add_mul]; omega, cl_take E l m]
theorem ow_set_heap {w : World} {b : Nat} {cs : Array Value} {T : TypeId} (i : Nat) (x : Value) (h : w.heap[b]? = some (.cells cs T (0, 0))) : (w.setCell ⟨b, i, none⟩ x).heap[b]? = some (.cells (cs.setIfInBounds i x) T (0, 0)) := by
  simp only [World.setCell, Array.getElem?_modify, if_pos]
  rw [h]
  rfl

/-- v is a slice of its own that holds Z. -/
def Ow (et : TypeId) (k : Nat) (enc : α → List Value) (base : Nat) (w : World) (v : Value) (Z : List α) : Prop := w.ownsRow base et k v Z.length (cl enc Z)
variable {et : TypeId} {base : Nat} {w w' : World} {v : Value} {Z : List α}
theorem Ow.nil_ (w : World) : Ow et k enc base w (.slice none 0 0) ([] : List α) := World.ownsRow_nil _ _ _ _
theorem Ow.but {K : List Nat} (h : Ow et k enc base w v Z) (hb : But K w w') (hn : ∀ g, v.ownBlock = some g → g ∉ K) : Ow et k enc base w' v Z := by
  refine ⟨h.1, ?_⟩
  rcases h.2 with h2 | ⟨g, cap, cur, rfl, hg, hh, r⟩
  · exact .inl h2
  · exact .inr ⟨g, cap, cur, rfl, hg, hb.heap hh (hn g rfl), r⟩
theorem Ow.ev (h : Ow et k enc base w v Z) (hE : Ev w w') : Ow et k enc base w' v Z := own_ev h hE
theorem Ow.lt (h : Ow et k enc base w v Z) {g : Nat} (hg : v.ownBlock = some g) : base ≤ g ∧ g < w.heap.size := World.ownsRow.lt h g hg
theorem Ow.form (E : Enc k enc) (h : Ow et k enc base w v Z) : ∃ A cap, v = .slice A Z.length cap ∧ Sl k enc w A Z.length cap Z ∧ ∀ ad, A = some ad → v.ownBlock = some ad.block ∧ base ≤ ad.block ∧ ad.block < w.heap.size ∧ ad = ⟨ad.block, 0, none⟩ ∧ ∀ i, w.frozen? ⟨ad.block, i, none⟩ = false := by
  have hlt := fun g hg => World.ownsRow.lt h g hg
  rcases h.2 with ⟨rfl, hn⟩ | ⟨g, cap, cur, rfl, hb, hg, hnc, hcm, hcs, ht⟩
  · have hl : Z = [] := List.eq_nil_of_length_eq_zero hn
    subst hl
    exact ⟨none, 0, rfl, Sl.nil_ w, by simp⟩
  · refine ⟨_, _, rfl, ⟨rfl, hnc, by simpa [maxLen] using hcm, by simp, fun h0 => ⟨g, 0, rfl, (Array.getElem?_eq_some_iff.1 hg).1, fun i x hx j u hu => ?_⟩⟩, ?_⟩
    · have hi := (List.getElem?_eq_some_iff.1 hx).1
      have hj := (List.getElem?_eq_some_iff.1 hu).1
      rw [E.len] at hj
      have := World.ownsRow.cellAt h (i * k + j) (by have : (i + 1) * k ≤ Z.length * k := Nat.mul_le_mul_right _ hi; rw [Nat.add_mul] at this; omega)
      rw [Nat.zero_add, this]
      exact cl_get E Z i x hx j u hu
    · rintro ad ⟨⟩
      exact ⟨rfl, (hlt g rfl).1, (hlt g rfl).2, rfl, fun i => Lib.frozen_of_heap hg i⟩
/-- A literal: its elements in a new block. -/
theorem Ow.made (E : Enc k enc) (w : World) (l : List α) (cs : Array Value) (h : cs.toList = cl enc l) (hb : base ≤ w.heap.size) (hl : l.length ≤ 1000000) : Ow et k enc base (w.alloc (.cells cs et)) (.slice (some ⟨w.heap.size, 0, none⟩) l.length l.length) l := by
  have hs : cs.size = l.length * k := by rw [← Array.length_toList, h, cl_length E]
  refine ⟨cl_length E l, .inr ⟨w.heap.size, l.length, cs, rfl, hb, heap_alloc_new w _, Nat.le_refl _, by unfold maxLen; omega, hs, ?_⟩⟩
  rw [h, List.take_of_length_le (by rw [cl_length E]; exact Nat.le_refl _)]
theorem Ow.to (E : Enc k enc) (h : Ow et k enc base w v Z) {A : Option Addr} {n cap : Nat} (hv : v = .slice A n cap) (m : Nat) (hm : m ≤ Z.length) : Ow et k enc base w (.slice A m cap) (Z.take m) := by
  have hl : (Z.take m).length = m := by rw [List.length_take]; omega
  rcases h.2 with ⟨h1, hn⟩ | ⟨g, cap', cur, h1, hb, hg, hnc, hcm, hcs, ht⟩
  · rw [hv] at h1
    injection h1 with h1 h2 h3
    subst h1; subst h3
    have : m = 0 := by omega
    subst this
    exact World.ownsRow_nil _ _ _ _
  · rw [hv] at h1
    injection h1 with h1 h2 h3
    subst h1; subst h3
    refine ⟨cl_length E _, .inr ⟨g, cap, cur, by rw [hl], hb, hg, by rw [hl]; omega, hcm, hcs, ?_⟩⟩
    rw [hl, ← cl_take E, ← ht, List.take_take]
    congr 1
    exact (Nat.min_eq_left (Nat.mul_le_mul_right _ hm)).symm
/-- One cell is stored. -/
theorem Ow.set (E : Enc k enc) {g n cap : Nat} (h : Ow et k enc base w (.slice (some ⟨g, 0, none⟩) n cap) Z) {i j : Nat} {x x' : α} {u : Value} (hx : Z[i]? = some x) (hj : j < k) (he : enc x' = (enc x).set j u) :
    Ow et k enc base (w.setCell ⟨g, i * k + j, none⟩ u) (.slice (some ⟨g, 0, none⟩) n cap) (Z.set i x') := by
  rcases h.2 with ⟨h1, hn⟩ | ⟨g', cap', cur, h1, hb, hg, hnc, hcm, hcs, ht⟩
  · cases h1
  · injection h1 with h1 h2 h3
    injection h1 with h1
    injection h1 with h1 _ _
    subst h1; subst h3
    refine ⟨cl_length E _, .inr ⟨g, cap, _, by rw [List.length_set, h2], hb, ow_set_heap _ _ hg, by rw [List.length_set]; exact hnc, hcm, by simpa using hcs, ?_⟩⟩
    rw [List.length_set, ← cl_set E Z i j x x' u hx hj he, ← ht, Array.toList_setIfInBounds, List.take_set]

/-- append of a slice onto a slice of the call's own. -/
theorem run_append_ow {P : Program} (E : Enc k enc) (T ty : TypeId) (ht : P.underlying T = some (.slice et)) {zero : Value} {bytes : Nat} (hi : (P.info? et).map (fun i => (i.zero, i.size, i.bytes)) = some (some zero, k, bytes)) (hz : zero.cells.size = k)
    (hown : Ow et k enc base w v Z) (A : Option Addr) (m c : Nat) (l : List α) (hB : Sl k enc w A m c l) (hbytes : (Z.length + l.length) * bytes ≤ 140737488355328) (hsm : Z.length + l.length ≤ 1000000000) (hbase : base ≤ w.heap.size) :
    ∃ v' w', (Builtin.append_ #[T, T] ty #[v, .slice A m c]).run P w = .ok v' w' ∧ Ow et k enc base w' v' (Z ++ l) ∧ But (foot v) w w' ∧ Sprung w v v' ∧ (v'.ownBlock = v.ownBlock ∨ v'.ownBlock = some w.heap.size) := by
  obtain ⟨i, hi0, hz', hsz, hby⟩ := info_parts hi
  have hl := hB.len
  cases A with
  | none =>
    obtain ⟨h0, h1⟩ := hB.nil rfl
    subst h0; subst h1
    have hnil : l = [] := List.eq_nil_of_length_eq_zero hl
    subst hnil
    exact ⟨v, w, run_append_owned_none (P := P) (w := w) base T ty et i k ht hi0 v _ _ hown, by simpa using hown, But.refl _ _, Sprung.refl _ _, .inl rfl⟩
  | some ad =>
    have hcells : ∀ j u, (cl enc l)[j]? = some u → w.cell? (ad.add j) = some u := by
      intro q u hu
      obtain ⟨i', j', x, rfl, hx, hxu⟩ := cl_back E l q u hu
      have hq := (List.getElem?_eq_some_iff.1 hx).1
      obtain ⟨b, off, e, _, hc⟩ := hB.rd (by omega)
      obtain rfl := Option.some.inj e
      have := hc i' x hx j' u hxu
      rw [Addr.add_lit]
      rwa [show off + i' * k + j' = off + (i' * k + j') by omega] at this
    obtain ⟨v', w', hr', h1, h2, _, h4⟩ := run_append_own_at (P := P) w base T ty et i zero k bytes ht hi0 hz' hsz hby hz E.pos v Z.length (cl enc Z) hown ad m c (cl enc l) (by rw [cl_length E, hl]) hcells (cl_one E l) (by unfold maxLen; omega) (by rw [← hl]; exact hbytes) hbase
    have hbut : But (foot v) w w' := But.grown h2 (fun g hg => mem_foot.2 hg)
    have hspr : Sprung w v v' := fun g hg => by
      rcases h4 with h4 | h4
      · exact .inl (h4 ▸ hg)
      · rw [h4] at hg; simp at hg; exact .inr (by omega)
    exact ⟨v', w', hr', by unfold Ow; rw [cl_append, List.length_append, hl]; exact h1, hbut, hspr, h4⟩
/-- What an append leaves. -/
def AppSt (et : TypeId) (k : Nat) (enc : α → List Value) (base : Nat) (w : World) (v : Value) (Z' : List α) (v' : Value) (w' : World) : Prop :=
  Ow et k enc base w' v' Z' ∧ But (foot v) w w' ∧ Sprung w v v'
theorem wpList_append_ow {P : Program} {ops : Array Oper} {rest : List Oper} {o : Oper} {a : Act} {Q : Exit → Act → World → Prop} (hgd : o.guard = none) (T : TypeId) (s x : Operand)
    (ho : o.op = .call { callee := .builtin .append, args := #[s, x], argTypes := #[T, T] }) (E : Enc k enc)
    (ht : P.underlying T = some (.slice et)) {zero : Value} {bytes : Nat} (hi : (P.info? et).map (fun i => (i.zero, i.size, i.bytes)) = some (some zero, k, bytes)) (hz : zero.cells.size = k)
    (hs : a.eval s = v) (hown : Ow et k enc base w v Z) (A : Option Addr) (m c : Nat) (l : List α) (hx : a.eval x = .slice A m c) (hB : Sl k enc w A m c l)
    (hbytes : (Z.length + l.length) * bytes ≤ 140737488355328) (hsm : Z.length + l.length ≤ 1000000000) (hbase : base ≤ w.heap.size)
    (h : ∀ v' w', AppSt et k enc base w v (Z ++ l) v' w' → wpList P ops Q rest (a.put o.dst v') w') : wpList P ops Q (o :: rest) a w := by
  refine wpList_plain hgd fun K hK => ?_
  obtain ⟨v', w', hr, h2, h3, h4, _⟩ := run_append_ow (P := P) E T o.type ht hi hz hown A m c l hB hbytes hsm hbase
  unfold Oper.wp execOp
  simp only [ho, resolve, invoke, builtin, Sem.run_bind, Sem.run_pure, Result.andThen_ok, List.map_toArray, List.map_cons, List.map_nil, hs, hx, hr]
  exact hK _ _ (h v' w' ⟨h2, h3, h4⟩)
/-- One element in a new slice. -/
theorem Sl.one (E : Enc k enc) (w : World) (x : α) (cs : Array Value) (h : cs.toList = enc x) : Sl k enc (w.alloc (.cells cs et)) (some ⟨w.heap.size, 0, none⟩) 1 1 [x] :=
  ⟨rfl, Nat.le_refl _, by omega, by simp, fun _ => ⟨w.heap.size, 0, rfl, by simp, fun i y hy j u hu => by
    have hi : i = 0 := by have := (List.getElem?_eq_some_iff.1 hy).1; simp at this; omega
    subst hi
    simp at hy
    subst hy
    rw [Lib.cell_of_heap (heap_alloc_new w _), Nat.zero_mul, Nat.zero_add]
    rw [← h] at hu
    simpa using hu⟩⟩
end
end Go.Proofs.Ytgiofdmedhhobaa
