/-
  Trees in memory; the list of what is open.
-/
import Derived.Test.YtjffppfgappikaaSf
namespace Go.Proofs.Ytjffppfgappikaa
open Go.RowKit
set_option linter.unusedVariables false

/-- A tree as it lies in memory: beside the tree where its Kids lie. -/
inductive M where
  | mk (kind : Int) (s : By) (n : Int) (A : Option Addr) (cap : Nat) (kids : List M) (pos : Nat) : M
def M.kind : M → Int
  | .mk k _ _ _ _ _ _ => k
def M.s : M → By
  | .mk _ s _ _ _ _ _ => s
def M.n : M → Int
  | .mk _ _ n _ _ _ _ => n
def M.A : M → Option Addr
  | .mk _ _ _ a _ _ _ => a
def M.cap : M → Nat
  | .mk _ _ _ _ c _ _ => c
def M.kids : M → List M
  | .mk _ _ _ _ _ l _ => l
def M.pos : M → Nat
  | .mk _ _ _ _ _ _ p => p
mutual
def M.t : M → T
  | .mk k s n _ _ l p => .mk k s n (M.ts l) p
def M.ts : List M → List T
  | [] => []
  | m :: l => m.t :: M.ts l
end
theorem M.ts_map : ∀ l : List M, M.ts l = l.map M.t
  | [] => by simp [M.ts]
  | m :: l => by simp [M.ts, M.ts_map l]
theorem M.t_eq (m : M) : m.t = .mk m.kind m.s m.n (m.kids.map M.t) m.pos := by
  cases m
  simp [M.t, M.ts_map, M.kind, M.s, M.n, M.kids, M.pos]
theorem M.t_kids (m : M) : m.t.kids = m.kids.map M.t := by rw [M.t_eq]; rfl
theorem M.t_kind (m : M) : m.t.kind = m.kind := by rw [M.t_eq]; rfl
theorem M.t_pos (m : M) : m.t.pos = m.pos := by rw [M.t_eq]; rfl
def M.kv (m : M) : Value := .slice m.A m.kids.length m.cap
def mc (m : M) : List Value := [.int .i64 m.kind, .string ⟨m.s.toArray⟩, .int .i64 m.n, m.kv, .int .i64 (m.pos : Int)]
def mv (m : M) : Value := .agg #[.int .i64 m.kind, .string ⟨m.s.toArray⟩, .int .i64 m.n, m.kv, .int .i64 (m.pos : Int)]
abbrev Ms := Sl 5 mc

def mlist (l : List M) : List Value := l.flatMap mc
theorem mlist_length (l : List M) : (mlist l).length = l.length * 5 := by
  induction l with
  | nil => rfl
  | cons x l ih =>
    have : (mlist (x :: l)).length = 5 + (mlist l).length := by simp [mlist, mc]; omega
    rw [this, ih, List.length_cons]; omega
theorem mlist_append (l m : List M) : mlist (l ++ m) = mlist l ++ mlist m := by simp [mlist]
theorem mlist_one_ (m : M) : mlist [m] = mc m := by simp [mlist]
theorem mlist_get : ∀ (l : List M) (i : Nat) (x : M), l[i]? = some x → ∀ j u, (mc x)[j]? = some u → (mlist l)[i * 5 + j]? = some u
  | [], _, _, h, _, _, _ => by simp at h
  | y :: l, 0, x, h, j, u, hu => by
    simp at h
    subst h
    have hj : j < 5 := (List.getElem?_eq_some_iff.1 hu).1
    have e : mlist (y :: l) = mc y ++ mlist l := rfl
    rw [e, Nat.zero_mul, Nat.zero_add, List.getElem?_append_left (by simpa [mc] using hj)]
    exact hu
  | y :: l, i + 1, x, h, j, u, hu => by
    have e : mlist (y :: l) = mc y ++ mlist l := rfl
    have hl : (mc y).length = 5 := rfl
    rw [e, List.getElem?_append_right (by rw [hl]; omega), hl, show (i + 1) * 5 + j - 5 = i * 5 + j by omega]
    exact mlist_get l i x (by simpa using h) j u hu
theorem mlist_ones (l : List M) : ∀ u ∈ mlist l, u.oneCell' = true := by
  intro u hu
  obtain ⟨x, _, hx⟩ := List.mem_flatMap.1 hu
  simp [mc, M.kv] at hx
  rcases hx with rfl | rfl | rfl | rfl | rfl <;> rfl

/-- A tree lies in memory, all of it in blocks that are not of K. -/
inductive Lies (b0 : Nat) (K : List Nat) (w : World) : M → Prop
  | mk {kind : Int} {s : By} {n : Int} {A : Option Addr} {cap : Nat} {kids : List M} {pos : Nat} : Ms w A kids.length cap kids → (∀ ad, A = some ad → b0 ≤ ad.block ∧ ad.block < w.heap.size ∧ ad.block ∉ K) → (∀ k ∈ kids, Lies b0 K w k) →
      Lies b0 K w (.mk kind s n A cap kids pos)
theorem Lies.ms {b0 : Nat} {K : List Nat} {w : World} {m : M} (h : Lies b0 K w m) : Ms w m.A m.kids.length m.cap m.kids := by
  cases h with
  | mk h1 h2 h3 => exact h1
theorem Lies.kid {b0 : Nat} {K : List Nat} {w : World} {m : M} (h : Lies b0 K w m) : ∀ k ∈ m.kids, Lies b0 K w k := by
  cases h with
  | mk h1 h2 h3 => exact h3
theorem Lies.move {b0 : Nat} {K K' : List Nat} {w w' : World} {m : M} (h : Lies b0 K w m) (hb : But K w w') (hs : ∀ x ∈ K', x ∈ K ∨ x < b0 ∨ w.heap.size ≤ x) : Lies b0 K' w' m := by
  induction h with
  | mk h1 h2 h3 ih =>
    refine .mk (h1.but hb fun ad e => (h2 ad e).2.2) (fun ad e => ⟨(h2 ad e).1, Nat.lt_of_lt_of_le (h2 ad e).2.1 hb.size, fun hm => ?_⟩) ih
    rcases hs _ hm with h4 | h4 | h4
    · exact (h2 ad e).2.2 h4
    · have := (h2 ad e).1; omega
    · have := (h2 ad e).2.1; omega
theorem Lies.ev {b0 : Nat} {K : List Nat} {w w' : World} {m : M} (h : Lies b0 K w m) (hE : Ev w w') : Lies b0 K w' m := h.move (But.of_ev hE) fun _ hx => .inl hx
theorem Lies.low {b0 b1 : Nat} {K : List Nat} {w : World} {m : M} (h : Lies b1 K w m) (hb : b0 ≤ b1) : Lies b0 K w m := by
  induction h with
  | mk h1 h2 h3 ih => exact .mk h1 (fun ad e => ⟨Nat.le_trans hb (h2 ad e).1, (h2 ad e).2⟩) ih
theorem Lies.less {b0 : Nat} {K K' : List Nat} {w : World} {m : M} (h : Lies b0 K w m) (hs : ∀ x ∈ K', x ∈ K ∨ x < b0 ∨ w.heap.size ≤ x) : Lies b0 K' w m := h.move (But.refl _ _) hs

/-- The blocks that may turn while v is the list of what is open. -/
def blk (v : Value) (os : List M) : List Nat := foot v ++ os.flatMap fun e => foot e.kv
structure Opn (base : Nat) (w : World) (v : Value) (os : List M) : Prop where
  own : w.ownsRow base 24 5 v os.length (mlist os)
  kid : ∀ e ∈ os, w.ownsRow base 24 5 e.kv e.kids.length (mlist e.kids)
  nd : (blk v os).Nodup
  lies : ∀ e ∈ os, ∀ m ∈ e.kids, Lies base (blk v os) w m
theorem own_but {K : List Nat} {w w' : World} {base : Nat} {e : TypeId} {size : Nat} {v : Value} {n : Nat} {xs : List Value} (h : w.ownsRow base e size v n xs) (hb : But K w w') (hn : ∀ g, v.ownBlock = some g → g ∉ K) : w'.ownsRow base e size v n xs := by
  refine ⟨h.1, ?_⟩
  rcases h.2 with h2 | ⟨g, cap, cur, rfl, hg, hh, r⟩
  · exact .inl h2
  · exact .inr ⟨g, cap, cur, rfl, hg, hb.heap hh (hn g rfl), r⟩
theorem mem_blk {v : Value} {os : List M} {g : Nat} : g ∈ blk v os ↔ v.ownBlock = some g ∨ ∃ e ∈ os, e.kv.ownBlock = some g := by
  unfold blk
  simp [mem_foot]
theorem Opn.range {base : Nat} {w : World} {v : Value} {os : List M} (h : Opn base w v os) {g : Nat} (hg : g ∈ blk v os) : base ≤ g ∧ g < w.heap.size := by
  rcases mem_blk.1 hg with h1 | ⟨e, he, h1⟩
  · exact h.own.lt g h1
  · exact (h.kid e he).lt g h1
theorem Opn.ev {base : Nat} {w w' : World} {v : Value} {os : List M} (h : Opn base w v os) (hE : Ev w w') : Opn base w' v os :=
  ⟨own_ev h.own hE, fun e he => own_ev (h.kid e he) hE, h.nd, fun e he m hm => (h.lies e he m hm).ev hE⟩
/-- The list's own cells. -/
theorem Opn.at {base : Nat} {w : World} {v : Value} {os : List M} (h : Opn base w v os) (h0 : os ≠ []) : ∃ g cap, v = .slice (some ⟨g, 0, none⟩) os.length cap ∧ os.length ≤ cap ∧ cap ≤ 9223372036854775807 ∧ base ≤ g ∧ g < w.heap.size ∧ (∀ i, w.frozen? ⟨g, i, none⟩ = false) ∧
    ∀ i x, os[i]? = some x → w.cell? ⟨g, i * 5, none⟩ = some (.int .i64 x.kind) ∧ w.cell? ⟨g, i * 5 + 1, none⟩ = some (.string ⟨x.s.toArray⟩) ∧ w.cell? ⟨g, i * 5 + 2, none⟩ = some (.int .i64 x.n) ∧ w.cell? ⟨g, i * 5 + 3, none⟩ = some x.kv ∧ w.cell? ⟨g, i * 5 + 4, none⟩ = some (.int .i64 (x.pos : Int)) := by
  rcases h.own.2 with ⟨_, hn⟩ | ⟨g, cap, cur, rfl, hg, hh, hnc, hcm, hcs, ht⟩
  · exact absurd (List.eq_nil_of_length_eq_zero hn) h0
  · refine ⟨g, cap, rfl, hnc, by simpa [maxLen] using hcm, hg, (Array.getElem?_eq_some_iff.1 hh).1, fun i => Lib.frozen_of_heap hh i, fun i x hx => ?_⟩
    have hi := (List.getElem?_eq_some_iff.1 hx).1
    have key : ∀ j u, (mc x)[j]? = some u → w.cell? ⟨g, i * 5 + j, none⟩ = some u := fun j u hu => by
      have hj : j < 5 := (List.getElem?_eq_some_iff.1 hu).1
      rw [World.ownsRow.cellAt h.own (i * 5 + j) (by omega)]
      exact mlist_get os i x hx j u hu
    exact ⟨key 0 _ rfl, key 1 _ rfl, key 2 _ rfl, key 3 _ rfl, key 4 _ rfl⟩
/-- A slice of trees: element i. -/
theorem Ms.cell {w : World} {A : Option Addr} {n cap : Nat} {l : List M} (h : Ms w A n cap l) {i : Nat} {x : M} (hx : l[i]? = some x) : ∃ b off, A = some ⟨b, off, none⟩ ∧ b < w.heap.size ∧
    w.cell? ⟨b, off + i * 5, none⟩ = some (.int .i64 x.kind) ∧ w.cell? ⟨b, off + i * 5 + 1, none⟩ = some (.string ⟨x.s.toArray⟩) ∧ w.cell? ⟨b, off + i * 5 + 2, none⟩ = some (.int .i64 x.n) ∧ w.cell? ⟨b, off + i * 5 + 3, none⟩ = some x.kv ∧ w.cell? ⟨b, off + i * 5 + 4, none⟩ = some (.int .i64 (x.pos : Int)) := by
  have hi := (List.getElem?_eq_some_iff.1 hx).1
  have hl := h.len
  obtain ⟨b, off, e, hlt, hc⟩ := h.rd (by omega)
  exact ⟨b, off, e, hlt, hc i x hx 0 _ rfl, hc i x hx 1 _ rfl, hc i x hx 2 _ rfl, hc i x hx 3 _ rfl, hc i x hx 4 _ rfl⟩
/-- An own row of trees reads as a slice. -/
theorem own_ms {w : World} {base : Nat} {A : Option Addr} {n cap : Nat} {l : List M} (h : w.ownsRow base 24 5 (.slice A n cap) n (mlist l)) : Ms w A n cap l := by
  have hl : l.length = n := by have := h.1; rw [mlist_length] at this; omega
  rcases h.2 with ⟨hv, hn⟩ | ⟨g, c, cur, hv, hg, hh, hnc, hcm, hcs, ht⟩
  · injection hv with h1 h2 h3
    subst h1; subst h2; subst h3
    exact ⟨hl, Nat.le_refl _, by omega, fun _ => ⟨rfl, rfl⟩, fun h0 => absurd h0 (by omega)⟩
  · injection hv with h1 h2 h3
    subst h1; subst h3
    refine ⟨hl, hnc, by simpa [maxLen] using hcm, by simp, fun h0 => ⟨g, 0, rfl, (Array.getElem?_eq_some_iff.1 hh).1, fun i x hx j u hu => ?_⟩⟩
    have hi := (List.getElem?_eq_some_iff.1 hx).1
    have hj : j < 5 := (List.getElem?_eq_some_iff.1 hu).1
    have := World.ownsRow.cellAt h (i * 5 + j) (by omega)
    rw [Nat.zero_add, this]
    exact mlist_get l i x hx j u hu

set_option maxRecDepth 100000 in
set_option maxHeartbeats 800000 in
theorem sx_isComplete {base : Nat} {v : Value} {os : List M} (w : World) (h : Opn base w v os) (h0 : os ≠ []) :
    Calls Try.prog 14 #[v] w fun e w' => e = .returned (.bool (sxDone (os.map M.t))) ∧ w = w' := by
  obtain ⟨g, cap, rfl, hle, hmx, _, hg, _, hc⟩ := h.at h0
  cases os with
  | nil => exact absurd rfl h0
  | cons e os =>
    obtain ⟨_, _, _, c3, _⟩ := hc 0 e rfl
    have hk := (own_ms (h.kid e (List.mem_cons_self ..))).le
    have hk2 := (own_ms (h.kid e (List.mem_cons_self ..))).max
    have HF : Hid (sxDone ((e :: os).map M.t) = decide (0 < e.kids.length)) := Lib.hid (by
      simp only [sxDone, List.map_cons, M.t_kids]
      cases e.kids <;> simp)
    unfold M.kv at c3
    generalize e.kids.length = n at *
    simp only [Nat.zero_mul, Nat.zero_add] at c3
    obtain ⟨q, hq⟩ : ∃ q, q = (e :: os).length := ⟨_, rfl⟩
    have hq1 : 1 ≤ q := by rw [hq]; simp
    rw [← hq] at hle ⊢
    have hD : decide (0 < n) = decide ((0 : Int) < (n : Int)) := decide_eq_decide.2 (by omega)
    have HD := Lib.hid hD
    clear hD hq hc h
    go_enter Try.func14, Try.ntmps14
    go_wp2
    go_ret
    exact ⟨by rw [HF.out, HD.out]; rfl, rfl⟩
end Go.Proofs.Ytjffppfgappikaa
