/-
  Texts that belong together: Plans in memory. Package plan: the reader: an error kept, a name, an expression, names. Package plan: the reader: columns of a project.
-/
import Derived.Test.YtojbahjebfcmgaaGreatDoorZ27W
import Derived.Test.YtojbahjebfcmgaaGreatDoorZ20W
import Derived.Test.YtojbahjebfcmgaaGreatDoorZ22W
import Derived.Test.YtojbahjebfcmgaaGreatDoorZ28W
import Derived.Test.YtojbahjebfcmgaaGreatDoorZ8W
namespace Go.Proofs.YtojbahjebfcmgaaGreatDoor
open Go.RowKit
set_option linter.unusedVariables false

/-- A list as it lies. -/
structure Sle (α : Type) where
  A : Option Addr
  cap : Nat
  l : List α
def Sle.v {α : Type} (x : Sle α) : Value := .slice x.A x.l.length x.cap
def Sle.nil {α : Type} : Sle α := ⟨none, 0, []⟩
def ac (a : Ag) : List Value := [.string ⟨a.1.toArray⟩, .string ⟨a.2.1.toArray⟩, .string ⟨a.2.2.toArray⟩]
theorem encA : Enc 3 ac := ⟨by omega, fun _ => rfl, fun x u hu => by
  simp [ac] at hu
  rcases hu with rfl | rfl | rfl <;> rfl⟩
/-- A plan as it lies in memory. -/
inductive PM where
  | mk (kind : Int) (name : By) (ex : Sle M) (co lf rt : Sle By) (ag : Sle Ag) (A : Option Addr) (cap : Nat) (kids : List PM) : PM
def PM.kind : PM → Int
  | .mk k _ _ _ _ _ _ _ _ _ => k
def PM.name : PM → By
  | .mk _ s _ _ _ _ _ _ _ _ => s
def PM.ex : PM → Sle M
  | .mk _ _ x _ _ _ _ _ _ _ => x
def PM.co : PM → Sle By
  | .mk _ _ _ x _ _ _ _ _ _ => x
def PM.lf : PM → Sle By
  | .mk _ _ _ _ x _ _ _ _ _ => x
def PM.rt : PM → Sle By
  | .mk _ _ _ _ _ x _ _ _ _ => x
def PM.ag : PM → Sle Ag
  | .mk _ _ _ _ _ _ x _ _ _ => x
def PM.A : PM → Option Addr
  | .mk _ _ _ _ _ _ _ a _ _ => a
def PM.cap : PM → Nat
  | .mk _ _ _ _ _ _ _ _ c _ => c
def PM.kids : PM → List PM
  | .mk _ _ _ _ _ _ _ _ _ l => l
mutual
def PM.p : PM → Pl
  | .mk k s ex co lf rt ag _ _ l => .mk k s (ex.l.map M.t) co.l lf.l rt.l ag.l (PM.ps l)
def PM.ps : List PM → List Pl
  | [] => []
  | m :: l => m.p :: PM.ps l
end
theorem PM.ps_map : ∀ l : List PM, PM.ps l = l.map PM.p
  | [] => by simp [PM.ps]
  | m :: l => by simp [PM.ps, PM.ps_map l]
theorem PM.p_eq (m : PM) : m.p = .mk m.kind m.name (m.ex.l.map M.t) m.co.l m.lf.l m.rt.l m.ag.l (m.kids.map PM.p) := by
  cases m
  simp [PM.p, PM.ps_map, PM.kind, PM.name, PM.ex, PM.co, PM.lf, PM.rt, PM.ag, PM.kids]
def PM.kv (m : PM) : Value := .slice m.A m.kids.length m.cap
def pc (m : PM) : List Value := [.int .i64 m.kind, .string ⟨m.name.toArray⟩, m.ex.v, m.co.v, m.lf.v, m.rt.v, m.ag.v, m.kv]
def pv (m : PM) : Value := .agg #[.int .i64 m.kind, .string ⟨m.name.toArray⟩, m.ex.v, m.co.v, m.lf.v, m.rt.v, m.ag.v, m.kv]
theorem encP : Enc 8 pc := ⟨by omega, fun _ => rfl, fun x u hu => by
  simp [pc, Sle.v, PM.kv] at hu
  rcases hu with rfl | rfl | rfl | rfl | rfl | rfl | rfl | rfl <;> rfl⟩
abbrev Ps := Sl 8 pc
/-- Where a list lies. -/
def Rng (b0 : Nat) (K : List Nat) (w : World) (A : Option Addr) : Prop := ∀ ad, A = some ad → b0 ≤ ad.block ∧ ad.block < w.heap.size ∧ ad.block ∉ K
theorem Rng.none (b0 : Nat) (K : List Nat) (w : World) : Rng b0 K w none := fun _ e => by cases e
theorem Rng.move {b0 : Nat} {K K' : List Nat} {w w' : World} {A : Option Addr} (h : Rng b0 K w A) (hb : But K w w') (hs : ∀ x ∈ K', x ∈ K ∨ x < b0 ∨ w.heap.size ≤ x) : Rng b0 K' w' A := fun ad e => by
  obtain ⟨h1, h2, h3⟩ := h ad e
  refine ⟨h1, Nat.lt_of_lt_of_le h2 hb.size, fun hm => ?_⟩
  rcases hs _ hm with h4 | h4 | h4
  · exact h3 h4
  · omega
  · omega
theorem Rng.low {b0 b1 : Nat} {K : List Nat} {w : World} {A : Option Addr} (h : Rng b1 K w A) (hb : b0 ≤ b1) : Rng b0 K w A := fun ad e => ⟨Nat.le_trans hb (h ad e).1, (h ad e).2⟩
/-- A list that lies there. -/
structure SleAt {α : Type} (k : Nat) (enc : α → List Value) (b0 : Nat) (K : List Nat) (w : World) (x : Sle α) : Prop where
  sl : Sl k enc w x.A x.l.length x.cap x.l
  rng : Rng b0 K w x.A
theorem SleAt.move {α : Type} {k : Nat} {enc : α → List Value} {b0 : Nat} {K K' : List Nat} {w w' : World} {x : Sle α} (h : SleAt k enc b0 K w x) (hb : But K w w') (hs : ∀ y ∈ K', y ∈ K ∨ y < b0 ∨ w.heap.size ≤ y) : SleAt k enc b0 K' w' x :=
  ⟨h.sl.but hb fun ad e => (h.rng ad e).2.2, h.rng.move hb hs⟩
theorem SleAt.low {α : Type} {k : Nat} {enc : α → List Value} {b0 b1 : Nat} {K : List Nat} {w : World} {x : Sle α} (h : SleAt k enc b1 K w x) (hb : b0 ≤ b1) : SleAt k enc b0 K w x := ⟨h.sl, h.rng.low hb⟩
theorem SleAt.nil {α : Type} (k : Nat) (enc : α → List Value) (b0 : Nat) (K : List Nat) (w : World) : SleAt k enc b0 K w (Sle.nil : Sle α) := ⟨Sl.nil_ w, Rng.none _ _ _⟩
/-- A plan lies in memory, all of it in blocks no older than b0 that are not of K. -/
inductive Qx (b0 : Nat) (K : List Nat) (w : World) : PM → Prop
  | mk {kind : Int} {name : By} {ex : Sle M} {co lf rt : Sle By} {ag : Sle Ag} {A : Option Addr} {cap : Nat} {kids : List PM} : SleAt 4 ec b0 K w ex → (∀ e ∈ ex.l, Lx b0 K w e) → SleAt 1 sc b0 K w co → SleAt 1 sc b0 K w lf → SleAt 1 sc b0 K w rt → SleAt 3 ac b0 K w ag →
      SleAt 8 pc b0 K w ⟨A, cap, kids⟩ → (∀ k ∈ kids, Qx b0 K w k) → Qx b0 K w (.mk kind name ex co lf rt ag A cap kids)
theorem Qx.at {b0 : Nat} {K : List Nat} {w : World} {m : PM} (h : Qx b0 K w m) : SleAt 4 ec b0 K w m.ex ∧ (∀ e ∈ m.ex.l, Lx b0 K w e) ∧ SleAt 1 sc b0 K w m.co ∧ SleAt 1 sc b0 K w m.lf ∧ SleAt 1 sc b0 K w m.rt ∧ SleAt 3 ac b0 K w m.ag ∧ SleAt 8 pc b0 K w ⟨m.A, m.cap, m.kids⟩ ∧ ∀ k ∈ m.kids, Qx b0 K w k := by
  cases h with
  | mk h1 h2 h3 h4 h5 h6 h7 h8 => exact ⟨h1, h2, h3, h4, h5, h6, h7, h8⟩
theorem Qx.kid {b0 : Nat} {K : List Nat} {w : World} {m : PM} (h : Qx b0 K w m) : ∀ k ∈ m.kids, Qx b0 K w k := h.at.2.2.2.2.2.2.2
theorem Qx.ps {b0 : Nat} {K : List Nat} {w : World} {m : PM} (h : Qx b0 K w m) : Ps w m.A m.kids.length m.cap m.kids := h.at.2.2.2.2.2.2.1.sl
theorem Qx.move {b0 : Nat} {K K' : List Nat} {w w' : World} {m : PM} (h : Qx b0 K w m) (hb : But K w w') (hs : ∀ x ∈ K', x ∈ K ∨ x < b0 ∨ w.heap.size ≤ x) : Qx b0 K' w' m := by
  induction h with
  | mk h1 h2 h3 h4 h5 h6 h7 h8 ih =>
    exact .mk (h1.move hb hs) (fun e he => (h2 e he).move hb hs) (h3.move hb hs) (h4.move hb hs) (h5.move hb hs) (h6.move hb hs) (h7.move hb hs) ih
theorem Qx.ev {b0 : Nat} {K : List Nat} {w w' : World} {m : PM} (h : Qx b0 K w m) (hE : Ev w w') : Qx b0 K w' m := h.move (But.of_ev hE) fun _ hx => .inl hx
theorem Qx.low {b0 b1 : Nat} {K : List Nat} {w : World} {m : PM} (h : Qx b1 K w m) (hb : b0 ≤ b1) : Qx b0 K w m := by
  induction h with
  | mk h1 h2 h3 h4 h5 h6 h7 h8 ih => exact .mk (h1.low hb) (fun e he => (h2 e he).low hb) (h3.low hb) (h4.low hb) (h5.low hb) (h6.low hb) (h7.low hb) ih
theorem Qx.less {b0 : Nat} {K K' : List Nat} {w : World} {m : PM} (h : Qx b0 K w m) (hs : ∀ x ∈ K', x ∈ K ∨ x < b0 ∨ w.heap.size ≤ x) : Qx b0 K' w m := h.move (But.refl _ _) hs
def pmZero : PM := .mk 0 [] .nil .nil .nil .nil .nil none 0 []
theorem pmZero_p : pmZero.p = pZero := by rw [PM.p_eq]; rfl
theorem Qx.zero (b0 : Nat) (K : List Nat) (w : World) : Qx b0 K w pmZero :=
  .mk (SleAt.nil ..) (fun _ h => by cases h) (SleAt.nil ..) (SleAt.nil ..) (SleAt.nil ..) (SleAt.nil ..) (SleAt.nil ..) (fun _ h => by cases h)
/-- Plan i of a slice. -/
theorem Ps.cell {w : World} {b off n cap : Nat} {l : List PM} (h : Ps w (some ⟨b, off, none⟩) n cap l) {i : Nat} {x : PM} (hx : l[i]? = some x) :
    w.cell? ⟨b, off + i * 8, none⟩ = some (.int .i64 x.kind) ∧ w.cell? ⟨b, off + i * 8 + 1, none⟩ = some (.string ⟨x.name.toArray⟩) ∧ w.cell? ⟨b, off + i * 8 + 2, none⟩ = some x.ex.v ∧ w.cell? ⟨b, off + i * 8 + 3, none⟩ = some x.co.v ∧ w.cell? ⟨b, off + i * 8 + 4, none⟩ = some x.lf.v ∧ w.cell? ⟨b, off + i * 8 + 5, none⟩ = some x.rt.v ∧ w.cell? ⟨b, off + i * 8 + 6, none⟩ = some x.ag.v ∧ w.cell? ⟨b, off + i * 8 + 7, none⟩ = some x.kv := by
  have hi := (List.getElem?_eq_some_iff.1 hx).1
  have hl := h.len
  obtain ⟨b', off', e, hlt, hc⟩ := h.rd (by omega)
  injection e with e
  injection e with e1 e2 _
  subst e1; subst e2
  exact ⟨hc i x hx 0 _ rfl, hc i x hx 1 _ rfl, hc i x hx 2 _ rfl, hc i x hx 3 _ rfl, hc i x hx 4 _ rfl, hc i x hx 5 _ rfl, hc i x hx 6 _ rfl, hc i x hx 7 _ rfl⟩
-- How deep.
mutual
def PM.dep : PM → Nat
  | .mk _ _ _ _ _ _ _ _ _ l => PM.deps l + 1
def PM.deps : List PM → Nat
  | [] => 0
  | m :: l => max m.dep (PM.deps l)
end
theorem PM.dep_kid : ∀ (l : List PM) (k : PM), k ∈ l → k.dep ≤ PM.deps l
  | [], k, h => by cases h
  | m :: l, k, h => by
    rcases List.mem_cons.1 h with rfl | h
    · simp [PM.deps]; omega
    · have := PM.dep_kid l k h
      simp [PM.deps]; omega
theorem PM.dep_eq (m : PM) : m.dep = PM.deps m.kids + 1 := by cases m; rfl
theorem PM.kid_dep {m k : PM} (h : k ∈ m.kids) : k.dep < m.dep := by
  have := PM.dep_kid m.kids k h
  rw [PM.dep_eq m]
  omega
/-- An own slice as a list that lies there. -/
theorem Ow.sle {α : Type} {et : TypeId} {k : Nat} {enc : α → List Value} {base : Nat} {w : World} {v : Value} {Z : List α} (E : Enc k enc) (h : Ow et k enc base w v Z) : ∃ x : Sle α, v = x.v ∧ x.l = Z ∧ SleAt k enc base [] w x := by
  obtain ⟨A, cap, hv, hS, hA⟩ := h.form E
  exact ⟨⟨A, cap, Z⟩, hv, rfl, hS, fun ad e => ⟨(hA ad e).2.1, (hA ad e).2.2.1, by simp⟩⟩
end Go.Proofs.YtojbahjebfcmgaaGreatDoor

namespace Go.Proofs.YtojbahjebfcmgaaGreatDoor
open Go.RowKit
set_option linter.unusedVariables false

/-- The reader: its first error. -/
abbrev Rb (gr : Nat) (e : Er) (w : World) : Prop := Bx 71 gr #[.int .i64 e.1, .int .i64 (e.2 : Int)] w
theorem Bx.two {T : TypeId} {g : Nat} {w : World} {v0 v1 : Value} (h : Bx T g #[v0, v1] w) : (w.cell? ⟨g, 0, none⟩ = some v0 ∧ w.cell? ⟨g, 1, none⟩ = some v1) ∧ (w.frozen? ⟨g, 0, none⟩ = false ∧ w.frozen? ⟨g, 1, none⟩ = false) :=
  ⟨⟨h.cell 0, h.cell 1⟩, h.frozen 0, h.frozen 1⟩
def set2 (g : Nat) (v0 v1 : Value) (w : World) : World := (w.setCell ⟨g, 0, none⟩ v0).setCell ⟨g, 1, none⟩ v1
theorem set2_fold (g : Nat) (v0 v1 : Value) (w : World) : (w.setCell ⟨g, 0, none⟩ v0).setCell ⟨g, 1, none⟩ v1 = set2 g v0 v1 w := rfl
theorem set2_but (g : Nat) (v0 v1 : Value) (w : World) : But [g] w (set2 g v0 v1 w) := (But.setCell ⟨g, 0, none⟩ v0 (by simp)).then (But.setCell ⟨g, 1, none⟩ v1 (by simp))
theorem Bx.set2 {T : TypeId} {g : Nat} {w : World} {u0 u1 : Value} (h : Bx T g #[u0, u1] w) (v0 v1 : Value) : Bx T g #[v0, v1] (set2 g v0 v1 w) := by
  have := (h.set 0 v0).set 1 v1
  rw [show (((#[u0, u1] : Array Value).setIfInBounds 0 v0).setIfInBounds 1 v1) = #[v0, v1] by simp] at this
  exact this
/-- What a method of the reader leaves: the error, all else as it was. -/
structure RdOut (gr : Nat) (e : Er) (w w' : World) : Prop where
  bx : Rb gr e w'
  but : But [gr] w w'
theorem RdOut.then {gr : Nat} {e e' : Er} {w w1 w2 : World} (h : RdOut gr e w w1) (k : RdOut gr e' w1 w2) : RdOut gr e' w w2 := ⟨k.bx, h.but.then k.but⟩
theorem RdOut.ev {gr : Nat} {e : Er} {w w1 w2 : World} (h : RdOut gr e w w1) (hE : Ev w1 w2) : RdOut gr e w w2 := ⟨h.bx.ev hE, h.but.then (But.of_ev hE)⟩
theorem RdOut.of {gr : Nat} {e : Er} {w w1 : World} (h : Rb gr e w) (hE : Ev w w1) : RdOut gr e w w1 := ⟨h.ev hE, But.of_ev hE⟩

set_option maxRecDepth 100000 in
set_option maxHeartbeats 1600000 in
theorem rd_fail (gr : Nat) (e : Er) (why : Int) (pos : Nat) (hy : why ≠ 0) (w : World) (hB : Rb gr e w) :
    Calls Tryz.prog 52 #[.pointer (some ⟨gr, 0, none⟩), .int .i64 why, .int .i64 (pos : Int)] w fun r w' => r = .returned (.tuple #[]) ∧ RdOut gr (orE e (why, pos)) w w' := by
  obtain ⟨⟨c0, c1⟩, f0, f1⟩ := hB.two
  have HB := Lib.hid hB
  have hyb : (why == 0) = false := beq_eq_false_iff_ne.2 hy
  clear hB
  by_cases h : e.1 = 0
  · have hO : orE e (why, pos) = (why, pos) := by unfold orE; simp [h, hy]
    rw [hO]
    have h' : (e.1 == 0) = true := by simp [h]
    go_enter Tryz.func52, Tryz.ntmps52
    go_wp2
    (try simp only [Exit.inBlock, Exit.then])
    rw [set2_fold]
    go_end0
    exact ⟨rfl, HB.out.set2 _ _, set2_but _ _ _ _⟩
  · have h' : (e.1 == 0) = false := beq_eq_false_iff_ne.2 h
    have hO : orE e (why, pos) = e := by unfold orE; simp [h]
    rw [hO]
    go_enter Tryz.func52, Tryz.ntmps52
    go_wp2
    go_end0
    exact ⟨rfl, HB.out, But.refl _ _⟩

set_option maxRecDepth 100000 in
set_option maxHeartbeats 1600000 in
theorem rd_name (gr : Nat) (e : Er) (m : M) (w : World) (hB : Rb gr e w) :
    Calls Tryz.prog 53 #[.pointer (some ⟨gr, 0, none⟩), .agg #[.int .i64 m.kind, .string ⟨m.s.toArray⟩, .int .i64 m.n, .slice m.A m.kids.length m.cap, .int .i64 (m.pos : Int)]] w fun r w' => r = .returned (.string ⟨m.s.toArray⟩) ∧ RdOut gr (orE e (nmErr m.t)) w w' := by
  have hX := Bx.new 67 #[.int .i64 m.kind, .string ⟨m.s.toArray⟩, .int .i64 m.n, .slice m.A m.kids.length m.cap, .int .i64 (m.pos : Int)] w
  have hE0 := Ev.alloc w (.cells #[.int .i64 m.kind, .string ⟨m.s.toArray⟩, .int .i64 m.n, .slice m.A m.kids.length m.cap, .int .i64 (m.pos : Int)] 67)
  have HN := Lib.hid (fun w1 => row_name ⟨m.s.toArray⟩ w1)
  have hn : nmErr m.t = if nameV ⟨m.s.toArray⟩ then (0, 0) else (20, m.pos) := by unfold nmErr xName bstr; rw [M.t_s, M.t_pos]
  rw [hn]
  have HX := Lib.hid hX
  have HE := Lib.hid hE0
  have HB := Lib.hid hB
  obtain ⟨⟨c0, c1, c2, c3, c4⟩, _⟩ := hX.five
  generalize nameV ⟨m.s.toArray⟩ = q at *
  clear hX hE0 hB hn
  cases q
  · have HF := Lib.hid (fun w1 (hE : Ev w w1) => rd_fail gr e 20 m.pos (by decide) w1 (HB.out.ev hE))
    go_enter Tryz.func53, Tryz.ntmps53
    go_wp2_with (first
      | ((with_reducible refine (HN.out _).mono ?_); rintro r w1 ⟨rfl, hE1⟩; have HE1 := Lib.hid (HE.out.trans hE1); clear c0 c1 c2 c3 c4; obtain ⟨⟨c0, c1, c2, c3, c4⟩, _⟩ := (HX.out.ev hE1).five)
      | ((with_reducible refine (HF.out _ HE1.out).mono ?_); rintro r w2 ⟨rfl, hR⟩; have HR := Lib.hid hR; clear c0 c1 c2 c3 c4; obtain ⟨⟨c0, c1, c2, c3, c4⟩, _⟩ := ((HX.out.ev hE1).but hR.but (by simp; have := HB.out.lt; omega)).five; clear hR))
    go_ret
    exact ⟨rfl, HR.out.bx, (But.of_ev HE1.out).then HR.out.but⟩
  · go_enter Tryz.func53, Tryz.ntmps53
    go_wp2_with (first
      | ((with_reducible refine (HN.out _).mono ?_); rintro r w1 ⟨rfl, hE1⟩; have HE1 := Lib.hid (HE.out.trans hE1); clear c0 c1 c2 c3 c4; obtain ⟨⟨c0, c1, c2, c3, c4⟩, _⟩ := (HX.out.ev hE1).five))
    go_ret
    refine ⟨rfl, ?_⟩
    rw [orE_zero]
    exact RdOut.of HB.out HE1.out

set_option maxRecDepth 100000 in
set_option maxHeartbeats 3200000 in
theorem rd_expression (gr : Nat) (e : Er) (m : M) (b0 : Nat) (w : World) (hB : Rb gr e w) (hL : Lies b0 [gr] w m) (hfair : m.t.every fairB = true) (hsz : m.t.size ≤ 16000) :
    Calls Tryz.prog 54 #[.pointer (some ⟨gr, 0, none⟩), .agg #[.int .i64 m.kind, .string ⟨m.s.toArray⟩, .int .i64 m.n, .slice m.A m.kids.length m.cap, .int .i64 (m.pos : Int)]] w fun r w' => ∃ x : M, r = .returned (ev_ x) ∧ x.t = (xRead m.t).1 ∧ Lx w.heap.size [] w' x ∧ RdOut gr (orE e (exErr m.t)) w w' := by
  obtain ⟨w0, hw0, hE0, hX, hR, hlt⟩ := bx_two w (.int .i64 m.kind) (.string ⟨m.s.toArray⟩) (.int .i64 m.n) (.slice m.A m.kids.length m.cap) (.int .i64 (m.pos : Int))
  have hRD := fun w1 (hE : Ev w w1) => ex_Read m b0 w1 ((hL.ev hE).less fun k hk => by cases hk) hfair hsz
  unfold exErr
  generalize xRead m.t = RR at *
  obtain ⟨RT, RE, RP⟩ := RR
  unfold RxOut at hRD
  simp only at hRD ⊢
  have HRD := Lib.hid hRD
  have HX := Lib.hid hX
  have HR := Lib.hid hR
  have HE := Lib.hid hE0
  have HB := Lib.hid hB
  have hgr := hB.lt
  obtain ⟨⟨c0, c1, c2, c3, c4⟩, _⟩ := hX.five
  unfold ev_ M.kv
  clear hX hR hE0 hB hRD hL hfair hsz
  by_cases h : RE = 0
  · have hO : orE e (RE, RP) = e := by unfold orE; simp [h]
    rw [hO]
    subst h
    go_enter Tryz.func54, Tryz.ntmps54
    go_wp2_with (first
      | ((with_reducible refine (HRD.out _ HE.out).mono ?_); rintro r w1 ⟨x, rfl, hxt, hxl, hE1⟩; simp only []; have HXT := Lib.hid hxt; have HXL := Lib.hid (hxl.ev (Ev.alloc w1 (.cells #[.int .i64 x.kind, .string ⟨x.s.toArray⟩, .int .i64 x.n, .slice x.A x.kids.length x.cap] 57))); have HE1 := Lib.hid (hE1.trans (Ev.alloc w1 (.cells #[.int .i64 x.kind, .string ⟨x.s.toArray⟩, .int .i64 x.n, .slice x.A x.kids.length x.cap] 57))); obtain ⟨⟨d0, d1, d2, d3⟩, _⟩ := (Bx.new 57 #[.int .i64 x.kind, .string ⟨x.s.toArray⟩, .int .i64 x.n, .slice x.A x.kids.length x.cap] w1).four; clear hxt hxl c0 c1 c2 c3 c4; obtain ⟨⟨b0_, b1_, b2_, b3_⟩, g0_, g1_, g2_, g3_⟩ := (HR.out.ev HE1.out).four))
    (try simp only [Exit.inBlock, Exit.then])
    rw [set4_fold]
    refine bodyPost_ret (results_cell1 rfl _ _ _ _ _ rfl ((HR.out.ev HE1.out).set4 _ _ _ _) Tryz.underlying57 rfl Tryz.sizeExpr) rfl ?_
    obtain ⟨f1, f2⟩ := rx_finish (g := w.heap.size + 1) (HE.out.trans HE1.out) (by omega) HXL.out hlt (.int .i64 x.kind) (.string ⟨x.s.toArray⟩) (.int .i64 x.n) (.slice x.A x.kids.length x.cap)
    exact ⟨x, rfl, HXT.out, f1, RdOut.of HB.out f2⟩
  · have hb : (RE != 0) = true := by simp [h]
    have HF := Lib.hid (fun w1 (hE : Ev w w1) => rd_fail gr e RE RP h w1 (HB.out.ev hE))
    go_enter Tryz.func54, Tryz.ntmps54
    go_wp2_with (first
      | ((with_reducible refine (HRD.out _ HE.out).mono ?_); rintro r w1 ⟨x, rfl, hxt, hxl, hE1⟩; simp only []; have HXT := Lib.hid hxt; have HXL := Lib.hid (hxl.ev (Ev.alloc w1 (.cells #[.int .i64 x.kind, .string ⟨x.s.toArray⟩, .int .i64 x.n, .slice x.A x.kids.length x.cap] 57))); have HE1 := Lib.hid (hE1.trans (Ev.alloc w1 (.cells #[.int .i64 x.kind, .string ⟨x.s.toArray⟩, .int .i64 x.n, .slice x.A x.kids.length x.cap] 57))); have HBX := Lib.hid (Bx.new 57 #[.int .i64 x.kind, .string ⟨x.s.toArray⟩, .int .i64 x.n, .slice x.A x.kids.length x.cap] w1); have hw1 := Lib.hid (HE.out.trans hE1).size; clear hxt hxl c0 c1 c2 c3 c4)
      | ((with_reducible refine (HF.out _ (HE.out.trans HE1.out)).mono ?_); rintro r w2 ⟨rfl, hRO⟩; have HRO := Lib.hid hRO; obtain ⟨⟨d0, d1, d2, d3⟩, _⟩ := (HBX.out.but hRO.but (by simp; have := hw1.out; omega)).four; obtain ⟨⟨b0_, b1_, b2_, b3_⟩, g0_, g1_, g2_, g3_⟩ := ((HR.out.ev HE1.out).but hRO.but (by simp; omega)).four; clear hRO))
    (try simp only [Exit.inBlock, Exit.then])
    rw [set4_fold]
    have hBR := (HR.out.ev HE1.out).but HRO.out.but (by simp; omega)
    refine bodyPost_ret (results_cell1 rfl _ _ _ _ _ rfl (hBR.set4 _ _ _ _) Tryz.underlying57 rfl Tryz.sizeExpr) rfl ?_
    refine ⟨x, rfl, HXT.out, ?_, HRO.out.bx.but (set4_but _ _ _ _ _ _) (by simp; omega), (((But.of_ev (HE.out.trans HE1.out)).then HRO.out.but)).trans (set4_but _ _ _ _ _ _) (fun k hk => by simp at hk; subst hk; exact .inr (by omega))⟩
    have h1 : Lx w0.heap.size [gr] _ x := HXL.out.less fun k hk => by simp at hk; subst hk; exact .inr (.inl (by omega))
    have h2 := h1.move HRO.out.but fun k hk => .inl hk
    have h3 : Lx w0.heap.size [w.heap.size + 1] w2 x := h2.less fun k hk => by simp at hk; subst hk; exact .inr (.inl (by omega))
    exact (h3.move (set4_but _ _ _ _ _ _) fun k hk => by cases hk).low (by omega)

/-- In the midst of a list: what has been read so far. -/
structure LsSt {α : Type} (et : TypeId) (k : Nat) (enc : α → List Value) (w0 : World) (gr : Nat) (A : Option Addr) (n cap : Nat) (L : List α) (e : Er) (w : World) : Prop where
  own : Ow et k enc w0.heap.size w (.slice A n cap) L
  len : L.length = n
  rd : RdOut gr e w0 w
theorem LsSt.start {α : Type} (et : TypeId) (k : Nat) (enc : α → List Value) {w0 : World} {gr : Nat} {e : Er} (hB : Rb gr e w0) : LsSt et k enc w0 gr none 0 0 ([] : List α) e w0 := ⟨Ow.nil_ _, rfl, hB, But.refl _ _⟩
theorem LsSt.next {α : Type} {et : TypeId} {k : Nat} {enc : α → List Value} (E : Enc k enc) {w0 wr wq w2 : World} {gr n cap : Nat} {A : Option Addr} {L : List α} {e e' : Er} {x : α} {v2 : Value} (h : LsSt et k enc w0 gr A n cap L e wr) (hr : RdOut gr e' wr wq) (hg : gr < w0.heap.size) (hA : AppSt et k enc w0.heap.size wq (.slice A n cap) (L ++ [x]) v2 w2) :
    ∃ A2 cap2, v2 = .slice A2 (n + 1) cap2 ∧ LsSt et k enc w0 gr A2 (n + 1) cap2 (L ++ [x]) e' w2 := by
  obtain ⟨ho, hb, hs⟩ := hA
  obtain ⟨A2, cap2, rfl, hSl, hAd⟩ := ho.form E
  have hl : (L ++ [x]).length = n + 1 := by rw [List.length_append, h.len]; rfl
  rw [hl] at ho hs hSl hAd ⊢
  have hown := h.own.but hr.but (fun g hg' => by simp; have := (h.own.lt hg').1; omega)
  refine ⟨A2, cap2, rfl, ho, hl, ?_, ?_⟩
  · exact hr.bx.but hb fun hm => by have := (hown.lt (mem_foot.1 hm)).1; omega
  · exact (h.rd.but.then hr.but).trans hb fun y hy => .inr (hown.lt (mem_foot.1 hy)).1
theorem LsSt.owq {α : Type} {et : TypeId} {k : Nat} {enc : α → List Value} {w0 wr wq : World} {gr n cap : Nat} {A : Option Addr} {L : List α} {e e' : Er} (h : LsSt et k enc w0 gr A n cap L e wr) (hr : RdOut gr e' wr wq) (hg : gr < w0.heap.size) : Ow et k enc w0.heap.size wq (.slice A n cap) L :=
  h.own.but hr.but (fun g hg' => by simp; have := (h.own.lt hg').1; omega)
theorem LsSt.size {α : Type} {et : TypeId} {k : Nat} {enc : α → List Value} {w0 wr wq : World} {gr n cap : Nat} {A : Option Addr} {L : List α} {e e' : Er} (h : LsSt et k enc w0 gr A n cap L e wr) (hr : RdOut gr e' wr wq) : w0.heap.size ≤ wq.heap.size := Nat.le_trans h.rd.but.size hr.but.size

set_option maxRecDepth 100000 in
set_option maxHeartbeats 3200000 in
theorem rd_names (gr : Nat) (e : Er) (l : List M) (A : Option Addr) (n cap b0 : Nat) (w : World) (hB : Rb gr e w) (h : Ms w A n cap l) (hr : Rng b0 [gr] w A) (hn : n ≤ 100000) :
    Calls Tryz.prog 57 #[.pointer (some ⟨gr, 0, none⟩), .slice A n cap] w fun r w' => ∃ x : Sle By, r = .returned x.v ∧ x.l = l.map M.s ∧ SleAt 1 sc w.heap.size [] w' x ∧ RdOut gr (orE e (firsts (l.map fun x => nmErr x.t))) w w' := by
  have hcl := h.le
  have hcm := h.max
  have HL := Lib.hid h.len
  have hgr := hB.lt
  have HS0 := Lib.hid (LsSt.start 9 1 sc hB)
  have HMS := Lib.hid (fun w1 (hb : But [gr] w w1) => h.but hb fun ad e => (hr ad e).2.2)
  have HRN := Lib.hid (fun m e w1 hB => rd_name gr e m w1 hB)
  clear hB h hr
  go_enter Tryz.func57, Tryz.ntmps57
  go_wp2
  go_loopw [5, 10] (fun av iv wr => ∃ (A1 : Option Addr) (cap1 k : Nat) (E : Er), av = .slice A1 k cap1 ∧ iv = .int .i64 (k : Int) ∧ k ≤ n ∧ Hid (E = (((l.take k).map fun x => nmErr x.t).foldl orE e)) ∧ Hid (LsSt 9 1 sc w gr A1 k cap1 ((l.take k).map M.s) E wr)) (fun _ iv _ => n - (intOf iv).toNat)
  case atStart => exact ⟨none, 0, 0, e, rfl, rfl, Nat.zero_le _, Lib.hid rfl, HS0⟩
  case round =>
    obtain ⟨A1, cap1, k, E, rfl, rfl, hk, HEE, HS⟩ := hrel
    by_cases hlt : k < n
    · obtain ⟨x, hx⟩ := (HMS.out w (But.refl _ _)).at hlt
      obtain ⟨b, off, rfl, hb, c0, c1, c2, c3, c4⟩ := Ms.cell (HMS.out wr HS.out.rd.but) hx
      unfold M.kv at c3
      have HTK : Hid ((l.take (k + 1)).map M.s = (l.take k).map M.s ++ [x.s] ∧ ((l.take (k + 1)).map fun x => nmErr x.t).foldl orE e = orE E (nmErr x.t)) := Lib.hid (by
        obtain ⟨hk2, e1⟩ := List.getElem?_eq_some_iff.1 hx
        rw [List.take_succ_eq_append_getElem hk2, e1, List.map_append, List.map_append, List.foldl_append, ← HEE.out]
        exact ⟨rfl, rfl⟩)
      have HN := Lib.hid (HRN.out x E (wr.alloc (.cells #[.int .i64 x.kind, .string ⟨x.s.toArray⟩, .int .i64 x.n, .slice x.A x.kids.length x.cap, .int .i64 (x.pos : Int)] 67)) (HS.out.rd.bx.ev (Ev.alloc _ _)))
      have HLL := Lib.hid HS.out.len
      have i1 : (0 : Int) ≤ (k : Int) := by omega
      have i2 : (k : Int) < (n : Int) := by omega
      clear hx
      go_wp2_with (first
        | ((with_reducible refine (HN.out).mono ?_); rintro r w1 ⟨rfl, hR⟩; have HR := Lib.hid ((⟨hR.bx, (But.of_ev (Ev.alloc wr (.cells #[.int .i64 x.kind, .string ⟨x.s.toArray⟩, .int .i64 x.n, .slice x.A x.kids.length x.cap, .int .i64 (x.pos : Int)] 67))).then hR.but⟩ : RdOut gr _ wr w1).ev (Ev.alloc w1 (.cells #[.string ⟨x.s.toArray⟩] 9))); clear hR)
        | ((show wpList _ _ _ (⟨some 19, _, _, _, _, _⟩ :: _) _ _); refine wpList_append_ow (o := ⟨some 19, _, _, _, _, _⟩) rfl 23 (.tmp 14) (.tmp 18) rfl encS1 Tryz.underlying23 Tryz.infoStr rfl rfl (HS.out.owq HR.out hgr) (some ⟨w1.heap.size, 0, none⟩) 1 1 [x.s] rfl (Sl.one (et := 9) encS1 w1 x.s _ rfl) (by rw [HLL.out]; simp; omega) (by rw [HLL.out]; simp; omega) (HS.out.size HR.out) ?_; intro v2 w2 hA2; obtain ⟨A2, cap2, rfl, ST2⟩ := HS.out.next encS1 HR.out hgr hA2))
      go_roundw
      case rel => exact ⟨A2, cap2, k + 1, _, rfl, by go_num, by omega, Lib.hid HTK.out.2.symm, Lib.hid (by rw [HTK.out.1]; exact ST2)⟩
      case measure => simp [intOf]; omega
    · obtain rfl : k = n := by omega
      have HF : Hid ((l.take k).map M.s = l.map M.s ∧ E = orE e (firsts (l.map fun x => nmErr x.t))) := Lib.hid (by
        have h1 := HEE.out
        rw [List.take_of_length_le (by rw [HL.out]; exact Nat.le_refl _)] at h1 ⊢
        exact ⟨rfl, by rw [h1, foldl_orE]⟩)
      go_wp2
      go_ret
      obtain ⟨x, hxv, hxl, hxs⟩ := HS.out.own.sle encS1
      rw [hxv]
      exact ⟨x, rfl, by rw [hxl, HF.out.1], hxs, HF.out.2 ▸ HS.out.rd⟩
end Go.Proofs.YtojbahjebfcmgaaGreatDoor

namespace Go.Proofs.YtojbahjebfcmgaaGreatDoor
open Go.RowKit
set_option linter.unusedVariables false

theorem But.cellq {K : List Nat} {w w' : World} (h : But K w w') {p : Addr} (hlt : p.block < w.heap.size) (hn : p.block ∉ K) : w'.cell? p = w.cell? p := World.cell?_of_block (h.block p.block hlt hn)
/-- In the midst of columns. -/
structure ClSt (w0 : World) (gr : Nat) (A1 : Option Addr) (cap1 : Nat) (N : List By) (A2 : Option Addr) (cap2 : Nat) (X : List M) (e : Er) (w : World) : Prop where
  ns : Ow 9 1 sc w0.heap.size w (.slice A1 N.length cap1) N
  es : Ow 57 4 ec w0.heap.size w (.slice A2 X.length cap2) X
  apart : ∀ g, (Value.slice A1 N.length cap1).ownBlock = some g → (Value.slice A2 X.length cap2).ownBlock ≠ some g
  lies : ∀ x ∈ X, Lx w0.heap.size (foot (.slice A1 N.length cap1) ++ foot (.slice A2 X.length cap2)) w x
  rd : RdOut gr e w0 w
theorem ClSt.start {w0 : World} {gr : Nat} {e : Er} (hB : Rb gr e w0) : ClSt w0 gr none 0 [] none 0 [] e w0 := ⟨Ow.nil_ _, Ow.nil_ _, (fun g h => by cases h), (fun x hx => by cases hx), hB, But.refl _ _⟩
theorem ClSt.through {w0 wr wq : World} {gr : Nat} {A1 A2 : Option Addr} {cap1 cap2 : Nat} {N : List By} {X : List M} {e e' : Er} (h : ClSt w0 gr A1 cap1 N A2 cap2 X e wr) (hr : RdOut gr e' wr wq) (hg : gr < w0.heap.size) : ClSt w0 gr A1 cap1 N A2 cap2 X e' wq :=
  ⟨h.ns.but hr.but (fun g hg' => by simp; have := (h.ns.lt hg').1; omega), h.es.but hr.but (fun g hg' => by simp; have := (h.es.lt hg').1; omega), h.apart,
   fun x hx => (((h.lies x hx).less (K' := gr :: (foot (.slice A1 N.length cap1) ++ foot (.slice A2 X.length cap2))) fun y hy => by
      rcases List.mem_cons.1 hy with rfl | hy
      · exact .inr (.inl hg)
      · exact .inl hy).move (hr.but.wide fun y hy => .inl (by simp at hy; subst hy; exact List.mem_cons_self ..)) fun y hy => .inl (List.mem_cons_of_mem _ hy)), h.rd.then hr⟩
theorem ClSt.name {w0 wq w2 : World} {gr : Nat} {A1 A2 : Option Addr} {cap1 cap2 : Nat} {N : List By} {X : List M} {e : Er} {s : By} {v2 : Value} (h : ClSt w0 gr A1 cap1 N A2 cap2 X e wq) (hg : gr < w0.heap.size) (hA : AppSt 9 1 sc w0.heap.size wq (.slice A1 N.length cap1) (N ++ [s]) v2 w2) :
    ∃ A1' cap1', v2 = .slice A1' (N.length + 1) cap1' ∧ ClSt w0 gr A1' cap1' (N ++ [s]) A2 cap2 X e w2 := by
  obtain ⟨ho, hb, hs⟩ := hA
  obtain ⟨A1', cap1', rfl, _, _⟩ := ho.form encS1
  have hl : (N ++ [s]).length = N.length + 1 := by simp
  refine ⟨A1', cap1', by rw [hl], ho, ?_, ?_, ?_, ?_⟩
  · exact h.es.but hb fun g hg' hm => h.apart g (mem_foot.1 hm) hg'
  · intro g hg' he
    rcases hs g hg' with h1 | h1
    · exact h.apart g h1 he
    · have := (h.es.lt he).2; omega
  · intro x hx
    refine (h.lies x hx).move (hb.wide fun y hy => .inl (List.mem_append_left _ hy)) fun y hy => ?_
    rcases List.mem_append.1 hy with h1 | h1
    · rcases hs y (mem_foot.1 h1) with h2 | h2
      · exact .inl (List.mem_append_left _ (mem_foot.2 h2))
      · exact .inr (.inr h2)
    · exact .inl (List.mem_append_right _ h1)
  · exact ⟨h.rd.bx.but hb fun hm => by have := (h.ns.lt (mem_foot.1 hm)).1; omega, h.rd.but.trans hb fun y hy => .inr (h.ns.lt (mem_foot.1 hy)).1⟩
theorem ClSt.expr {w0 wp wq w2 : World} {gr : Nat} {A1 A2 : Option Addr} {cap1 cap2 : Nat} {N : List By} {X : List M} {e : Er} {x : M} {v2 : Value} (h : ClSt w0 gr A1 cap1 N A2 cap2 X e wq) (hg : gr < w0.heap.size) (hx : Lx wp.heap.size [] wq x) (hp0 : w0.heap.size ≤ wp.heap.size)
    (hN : ∀ g, (Value.slice A1 N.length cap1).ownBlock = some g → g < wp.heap.size) (hX : ∀ g, (Value.slice A2 X.length cap2).ownBlock = some g → g < wp.heap.size)
    (hA : AppSt 57 4 ec w0.heap.size wq (.slice A2 X.length cap2) (X ++ [x]) v2 w2) :
    ∃ A2' cap2', v2 = .slice A2' (X.length + 1) cap2' ∧ ClSt w0 gr A1 cap1 N A2' cap2' (X ++ [x]) e w2 := by
  obtain ⟨ho, hb, hs⟩ := hA
  obtain ⟨A2', cap2', rfl, _, _⟩ := ho.form encE
  have hl : (X ++ [x]).length = X.length + 1 := by simp
  refine ⟨A2', cap2', by rw [hl], ?_, ho, ?_, ?_, ?_⟩
  · exact h.ns.but hb fun g hg' hm => h.apart g hg' (mem_foot.1 hm)
  · intro g hg' he
    rcases hs g he with h1 | h1
    · exact h.apart g hg' h1
    · have := (h.ns.lt hg').2; omega
  · intro y hy
    have hy2 : Lx w0.heap.size (foot (.slice A1 N.length cap1) ++ foot (.slice A2 X.length cap2)) wq y := by
      rcases List.mem_append.1 hy with h1 | h1
      · exact h.lies y h1
      · simp at h1
        subst h1
        refine (hx.less fun k hk => .inr (.inl ?_)).low hp0
        rcases List.mem_append.1 hk with h2 | h2
        · exact hN k (mem_foot.1 h2)
        · exact hX k (mem_foot.1 h2)
    refine hy2.move (hb.wide fun z hz => .inl (List.mem_append_right _ hz)) fun z hz => ?_
    rcases List.mem_append.1 hz with h1 | h1
    · exact .inl (List.mem_append_left _ h1)
    · rcases hs z (mem_foot.1 h1) with h2 | h2
      · exact .inl (List.mem_append_right _ (mem_foot.2 h2))
      · exact .inr (.inr h2)
  · exact ⟨h.rd.bx.but hb fun hm => by have := (h.es.lt (mem_foot.1 hm)).1; omega, h.rd.but.trans hb fun y hy => .inr (h.es.lt (mem_foot.1 hy)).1⟩
/-- The same, with the box of the tree that is looked at. -/
structure ClB (w0 : World) (gr : Nat) (A1 : Option Addr) (cap1 : Nat) (N : List By) (A2 : Option Addr) (cap2 : Nat) (X : List M) (e : Er) (gb : Nat) (bc : Array Value) (w : World) : Prop where
  st : ClSt w0 gr A1 cap1 N A2 cap2 X e w
  bx : Bx 67 gb bc w
  nr : gb ≠ gr
  n1 : ∀ g, (Value.slice A1 N.length cap1).ownBlock = some g → gb ≠ g
  n2 : ∀ g, (Value.slice A2 X.length cap2).ownBlock = some g → gb ≠ g
theorem ClB.start {w0 wr : World} {gr : Nat} {A1 A2 : Option Addr} {cap1 cap2 : Nat} {N : List By} {X : List M} {e : Er} (h : ClSt w0 gr A1 cap1 N A2 cap2 X e wr) (bc : Array Value) : ClB w0 gr A1 cap1 N A2 cap2 X e wr.heap.size bc (wr.alloc (.cells bc 67)) :=
  ⟨⟨h.ns.ev (Ev.alloc _ _), h.es.ev (Ev.alloc _ _), h.apart, fun x hx => (h.lies x hx).ev (Ev.alloc _ _), h.rd.ev (Ev.alloc _ _)⟩, Bx.new _ _ _, Nat.ne_of_gt h.rd.bx.lt, fun g hg => Nat.ne_of_gt (h.ns.lt hg).2, fun g hg => Nat.ne_of_gt (h.es.lt hg).2⟩
theorem ClB.through {w0 wr wq : World} {gr gb : Nat} {bc : Array Value} {A1 A2 : Option Addr} {cap1 cap2 : Nat} {N : List By} {X : List M} {e e' : Er} (h : ClB w0 gr A1 cap1 N A2 cap2 X e gb bc wr) (hr : RdOut gr e' wr wq) (hg : gr < w0.heap.size) : ClB w0 gr A1 cap1 N A2 cap2 X e' gb bc wq :=
  ⟨h.st.through hr hg, h.bx.but hr.but (by simp; exact h.nr), h.nr, h.n1, h.n2⟩
theorem ClB.ev {w0 wr wq : World} {gr gb : Nat} {bc : Array Value} {A1 A2 : Option Addr} {cap1 cap2 : Nat} {N : List By} {X : List M} {e : Er} (h : ClB w0 gr A1 cap1 N A2 cap2 X e gb bc wr) (hE : Ev wr wq) : ClB w0 gr A1 cap1 N A2 cap2 X e gb bc wq :=
  ⟨⟨h.st.ns.ev hE, h.st.es.ev hE, h.st.apart, fun x hx => (h.st.lies x hx).ev hE, h.st.rd.ev hE⟩, h.bx.ev hE, h.nr, h.n1, h.n2⟩
theorem ClB.name {w0 wq w2 : World} {gr gb : Nat} {bc : Array Value} {A1 A2 : Option Addr} {cap1 cap2 : Nat} {N : List By} {X : List M} {e : Er} {s : By} {v2 : Value} (h : ClB w0 gr A1 cap1 N A2 cap2 X e gb bc wq) (hg : gr < w0.heap.size) (hA : AppSt 9 1 sc w0.heap.size wq (.slice A1 N.length cap1) (N ++ [s]) v2 w2) :
    ∃ A1' cap1', v2 = .slice A1' (N.length + 1) cap1' ∧ ClB w0 gr A1' cap1' (N ++ [s]) A2 cap2 X e gb bc w2 := by
  obtain ⟨A1', cap1', hv, hS⟩ := h.st.name hg hA
  refine ⟨A1', cap1', hv, hS, h.bx.but hA.2.1 fun hm => h.n1 gb (mem_foot.1 hm) rfl, h.nr, fun g hg' => ?_, h.n2⟩
  have hl : (N ++ [s]).length = N.length + 1 := by simp
  rw [hl, ← hv] at hg'
  rcases hA.2.2 g hg' with h1 | h1
  · exact h.n1 g h1
  · have := h.bx.lt; omega
theorem ClB.expr {w0 wp wq w2 : World} {gr gb : Nat} {bc : Array Value} {A1 A2 : Option Addr} {cap1 cap2 : Nat} {N : List By} {X : List M} {e0 e : Er} {x : M} {v2 : Value} (h0 : ClB w0 gr A1 cap1 N A2 cap2 X e0 gb bc wp) (h : ClB w0 gr A1 cap1 N A2 cap2 X e gb bc wq) (hg : gr < w0.heap.size) (hx : Lx wp.heap.size [] wq x)
    (hA : AppSt 57 4 ec w0.heap.size wq (.slice A2 X.length cap2) (X ++ [x]) v2 w2) :
    ∃ A2' cap2', v2 = .slice A2' (X.length + 1) cap2' ∧ ClB w0 gr A1 cap1 N A2' cap2' (X ++ [x]) e gb bc w2 := by
  obtain ⟨A2', cap2', hv, hS⟩ := h.st.expr hg hx h0.st.rd.but.size (fun g hg' => (h0.st.ns.lt hg').2) (fun g hg' => (h0.st.es.lt hg').2) hA
  refine ⟨A2', cap2', hv, hS, h.bx.but hA.2.1 fun hm => h.n2 gb (mem_foot.1 hm) rfl, h.nr, h.n1, fun g hg' => ?_⟩
  have hl : (X ++ [x]).length = X.length + 1 := by simp
  rw [hl, ← hv] at hg'
  rcases hA.2.2 g hg' with h1 | h1
  · exact h.n2 g h1
  · have := h.bx.lt; omega
theorem col_two {x : M} (h : isColT x.t = true) : x.kids.length = 2 := by
  unfold isColT at h
  simp only [Bool.and_eq_true, beq_iff_eq] at h
  have := h.1.2
  rwa [M.t_kids, List.length_map] at this
/-- The first two Kids of a tree, as long as only the reader turns. -/
theorem kids_two {b0 gr : Nat} {w : World} {x : M} (h : Lies b0 [gr] w x) {n : Nat} (hn : x.kids.length = n + 2) : ∃ b off x0 x1, x.A = some ⟨b, off, none⟩ ∧ x.kids[0]? = some x0 ∧ x.kids[1]? = some x1 ∧ ∀ w1, But [gr] w w1 →
    (w1.cell? ⟨b, off, none⟩ = some (.int .i64 x0.kind) ∧ w1.cell? ⟨b, off + 1, none⟩ = some (.string ⟨x0.s.toArray⟩) ∧ w1.cell? ⟨b, off + 2, none⟩ = some (.int .i64 x0.n) ∧ w1.cell? ⟨b, off + 3, none⟩ = some (.slice x0.A x0.kids.length x0.cap) ∧ w1.cell? ⟨b, off + 4, none⟩ = some (.int .i64 (x0.pos : Int))) ∧
    (w1.cell? ⟨b, off + 5, none⟩ = some (.int .i64 x1.kind) ∧ w1.cell? ⟨b, off + 5 + 1, none⟩ = some (.string ⟨x1.s.toArray⟩) ∧ w1.cell? ⟨b, off + 5 + 2, none⟩ = some (.int .i64 x1.n) ∧ w1.cell? ⟨b, off + 5 + 3, none⟩ = some (.slice x1.A x1.kids.length x1.cap) ∧ w1.cell? ⟨b, off + 5 + 4, none⟩ = some (.int .i64 (x1.pos : Int))) := by
  have hms := h.ms
  obtain ⟨x0, hx0⟩ := hms.at (i := 0) (by omega)
  obtain ⟨x1, hx1⟩ := hms.at (i := 1) (by omega)
  obtain ⟨b, off, hxA, hb, _⟩ := Ms.cell hms hx0
  have hgb : b ≠ gr := by
    cases h with
    | mk h1 h2 h3 =>
      have := (h2 _ hxA).2.2
      simpa using this
  rw [hxA] at hms
  refine ⟨b, off, x0, x1, hxA, hx0, hx1, fun w1 hb => ?_⟩
  have h0 := Ms.cell3 (hms.but hb fun ad e => by cases e; simp; exact hgb) hx0
  have h1 := Ms.cell3 (hms.but hb fun ad e => by cases e; simp; exact hgb) hx1
  simp only [Nat.zero_mul, Nat.add_zero, Nat.one_mul] at h0 h1
  exact ⟨h0, h1⟩

set_option maxRecDepth 100000 in
set_option maxHeartbeats 6400000 in
theorem rd_columns (gr : Nat) (e : Er) (l : List M) (A : Option Addr) (n cap b0 : Nat) (w : World) (hB : Rb gr e w) (h : Ms w A n cap l) (hr : Rng b0 [gr] w A) (hn : n ≤ 10000) (hcol : ∀ x ∈ l, isColT x.t = true) (hlies : ∀ x ∈ l, Lies b0 [gr] w x) (hfair : ∀ x ∈ l, x.t.every fairB = true) (hsz : ∀ x ∈ l, x.t.size ≤ 16000) :
    Calls Tryz.prog 56 #[.pointer (some ⟨gr, 0, none⟩), .slice A n cap] w fun r w' => ∃ (N : Sle By) (X : Sle M), r = .returned (.tuple #[N.v, X.v]) ∧ N.l = l.map (fun x => colN x.t) ∧ X.l.map M.t = l.map (fun x => colE x.t) ∧ SleAt 1 sc w.heap.size [] w' N ∧ SleAt 4 ec w.heap.size [] w' X ∧ (∀ x ∈ X.l, Lx w.heap.size [] w' x) ∧ RdOut gr (orE e (firsts (l.flatMap fun x => colErrs x.t))) w w' := by
  have hcl := h.le
  have hcm := h.max
  have HL := Lib.hid h.len
  have hgr := hB.lt
  have HS0 := Lib.hid (ClSt.start hB)
  have HMS := Lib.hid (fun w1 (hb : But [gr] w w1) => h.but hb fun ad e => (hr ad e).2.2)
  have HRN := Lib.hid (fun m e w1 hB => rd_name gr e m w1 hB)
  have hRE := fun m e b0 w1 hB hL hf hs => rd_expression gr e m b0 w1 hB hL hf hs
  unfold ev_ M.kv at hRE
  have HRE := Lib.hid hRE
  have HLIES := Lib.hid (fun x hx w1 (hb : But [gr] w w1) => (hlies x hx).move hb fun _ hy => .inl hy)
  have HCOL := Lib.hid hcol
  have HFAIR := Lib.hid hfair
  have HSZ := Lib.hid hsz
  clear hB h hr hcol hlies hfair hsz hRE
  go_enter Tryz.func56, Tryz.ntmps56
  go_wp2
  go_loopw [6, 7, 12] (fun av bv iv wr => ∃ (A1 A2 : Option Addr) (cap1 cap2 k : Nat) (E : Er) (N : List By) (X : List M), av = .slice A1 k cap1 ∧ bv = .slice A2 k cap2 ∧ iv = .int .i64 (k : Int) ∧ k ≤ n ∧ Hid (N.length = k ∧ X.length = k) ∧ Hid (N = (l.take k).map (fun x => colN x.t)) ∧ Hid (X.map M.t = (l.take k).map (fun x => colE x.t)) ∧ Hid (E = (((l.take k).flatMap fun x => colErrs x.t).foldl orE e)) ∧ Hid (ClSt w gr A1 cap1 N A2 cap2 X E wr)) (fun _ _ iv _ => n - (intOf iv).toNat)
  case atStart => exact ⟨none, none, 0, 0, 0, e, [], [], rfl, rfl, rfl, Nat.zero_le _, Lib.hid ⟨rfl, rfl⟩, Lib.hid rfl, Lib.hid rfl, Lib.hid rfl, HS0⟩
  case round =>
    obtain ⟨A1, A2, cap1, cap2, k, E, N, X, rfl, rfl, rfl, hk, HNK, HNN, HXX, HEE, HS⟩ := hrel
    by_cases hlt : k < n
    · obtain ⟨x, hx⟩ := (HMS.out w (But.refl _ _)).at hlt
      have hxm := List.mem_of_getElem? hx
      obtain ⟨b, off, rfl, hb, c0, c1, c2, c3, c4⟩ := Ms.cell (HMS.out wr HS.out.rd.but) hx
      unfold M.kv at c3
      have hk2 := col_two (HCOL.out x hxm)
      have hcap2 : 2 ≤ x.cap := by have := (HLIES.out x hxm w (But.refl _ _)).ms.le; omega
      have hcapm : x.cap ≤ 9223372036854775807 := (HLIES.out x hxm w (But.refl _ _)).ms.max
      obtain ⟨b', off', x0, x1, hxA, hx0, hx1, hKC⟩ := kids_two (HLIES.out x hxm w (But.refl _ _)) (n := 0) (by omega)
      have HKC := Lib.hid hKC
      have hcn : colN x.t = x0.s := by unfold colN; rw [M.t_kids, at_m _ _ _ hx0, M.t_s]
      have hce : colE x.t = (xRead x1.t).1 := by unfold colE; rw [M.t_kids, at_m _ _ _ hx1]
      have hcs : colErrs x.t = [nmErr x0.t, exErr x1.t] := by unfold colErrs; rw [M.t_kids, at_m _ _ _ hx0, at_m _ _ _ hx1]
      have HTK : Hid ((l.take (k + 1)).map (fun x => colN x.t) = (l.take k).map (fun x => colN x.t) ++ [x0.s] ∧ (l.take (k + 1)).map (fun x => colE x.t) = (l.take k).map (fun x => colE x.t) ++ [(xRead x1.t).1] ∧ ((l.take (k + 1)).flatMap fun x => colErrs x.t).foldl orE e = orE (orE E (nmErr x0.t)) (exErr x1.t)) := Lib.hid (by
        obtain ⟨hk2, e1⟩ := List.getElem?_eq_some_iff.1 hx
        rw [List.take_succ_eq_append_getElem hk2, e1, List.map_append, List.map_append, List.flatMap_append, List.foldl_append, ← HEE.out]
        simp only [List.map_cons, List.map_nil, List.flatMap_cons, List.flatMap_nil, List.append_nil, hcn, hce, hcs]
        refine ⟨?_, ?_, ?_⟩ <;> first | rfl | trivial)
      rw [hxA, hk2] at c3
      obtain ⟨BC, hBC⟩ : ∃ BC : Array Value, BC = #[.int .i64 x.kind, .string ⟨x.s.toArray⟩, .int .i64 x.n, .slice (some ⟨b', off', none⟩) 2 x.cap, .int .i64 (x.pos : Int)] := ⟨_, rfl⟩
      have hCB := ClB.start HS.out BC
      rw [hBC] at hCB
      have HCB := Lib.hid hCB
      have HN := Lib.hid (HRN.out x0 E _ HCB.out.st.rd.bx)
      have HX1 := Lib.hid (fun w1 (hb : But [gr] w w1) => (HLIES.out x hxm w1 hb).kid x1 (List.mem_of_getElem? hx1))
      have HF1 : Hid (x1.t.every fairB = true ∧ x1.t.size ≤ 16000) := Lib.hid (by
        have h5 := HFAIR.out x hxm
        rw [T.every_eq, Bool.and_eq_true] at h5
        have h6 := HSZ.out x hxm
        have h7 := T.size_eq x.t
        rw [M.t_kids, List.map_map] at h7
        have h8 := mem_le_sum (List.mem_map.2 ⟨x1, List.mem_of_getElem? hx1, rfl⟩ : x1.t.size ∈ x.kids.map (T.size ∘ M.t))
        exact ⟨List.all_eq_true.1 h5.2 x1.t (by rw [M.t_kids]; exact List.mem_map.2 ⟨x1, List.mem_of_getElem? hx1, rfl⟩), by omega⟩)
      obtain ⟨⟨d0, d1, d2, d3, d4⟩, _⟩ := HCB.out.bx.five
      obtain ⟨⟨k0, k1, k2, k3, k4⟩, j0, j1, j2, j3, j4⟩ := HKC.out _ HCB.out.st.rd.but
      have i1 : (0 : Int) ≤ (k : Int) := by omega
      have i2 : (k : Int) < (n : Int) := by omega
      have HNL := Lib.hid HNK.out.1
      have HXL := Lib.hid HNK.out.2
      clear hx hxm hx0 hx1 hcn hce hcs hxA hKC hCB hBC hb
      go_wp2_with (first
        | ((with_reducible refine (HN.out).mono ?_); rintro r w1 ⟨rfl, hR⟩; have HCB1 := Lib.hid ((HCB.out.through hR hgr).ev (Ev.alloc w1 (.cells #[.string ⟨x0.s.toArray⟩] 9))); clear hR)
        | ((show wpList _ _ _ (⟨some 24, _, _, _, _, _⟩ :: _) _ _); refine wpList_append_ow (o := ⟨some 24, _, _, _, _, _⟩) rfl 23 (.tmp 16) (.tmp 23) rfl encS1 Tryz.underlying23 Tryz.infoStr rfl (by rw [← HNL.out]; rfl) HCB1.out.st.ns (some ⟨w1.heap.size, 0, none⟩) 1 1 [x0.s] rfl (Sl.one (et := 9) encS1 w1 x0.s _ rfl) (by rw [HNL.out]; simp; omega) (by rw [HNL.out]; simp; omega) HCB1.out.st.rd.but.size ?_; intro v2 w2 hA2; obtain ⟨A1', cap1', hv2, ST2⟩ := HCB1.out.name hgr hA2; rw [HNL.out] at hv2; subst hv2; have HCB2 := Lib.hid ST2; clear ST2 hA2 d0 d1 d2 d3 d4 k0 k1 k2 k3 k4 j0 j1 j2 j3 j4; obtain ⟨⟨d0, d1, d2, d3, d4⟩, _⟩ := HCB2.out.bx.five; obtain ⟨⟨k0, k1, k2, k3, k4⟩, j0, j1, j2, j3, j4⟩ := HKC.out _ HCB2.out.st.rd.but)
        | ((with_reducible refine (HRE.out x1 _ b0 _ HCB2.out.st.rd.bx (HX1.out _ HCB2.out.st.rd.but) HF1.out.1 HF1.out.2).mono ?_); rintro r w3 ⟨x', rfl, hxt, hxl, hR⟩; have HXT := Lib.hid hxt; have HXL3 := Lib.hid (hxl.ev (Ev.alloc w3 (.cells #[.int .i64 x'.kind, .string ⟨x'.s.toArray⟩, .int .i64 x'.n, .slice x'.A x'.kids.length x'.cap] 57))); have HCB3 := Lib.hid ((HCB2.out.through hR hgr).ev (Ev.alloc w3 (.cells #[.int .i64 x'.kind, .string ⟨x'.s.toArray⟩, .int .i64 x'.n, .slice x'.A x'.kids.length x'.cap] 57))); clear hxt hxl hR)
        | ((show wpList _ _ _ (⟨some 33, _, _, _, _, _⟩ :: _) _ _); refine wpList_append_ow (o := ⟨some 33, _, _, _, _, _⟩) rfl 22 (.tmp 25) (.tmp 32) rfl encE Tryz.underlying22 Tryz.infoExpr rfl (by rw [← HXL.out]; rfl) HCB3.out.st.es (some ⟨w3.heap.size, 0, none⟩) 1 1 [x'] rfl (Sl.one (et := 57) encE w3 x' _ rfl) (by rw [HXL.out]; simp; omega) (by rw [HXL.out]; simp; omega) HCB3.out.st.rd.but.size ?_; intro v4 w4 hA4; obtain ⟨A2', cap2', hv4, ST4⟩ := ClB.expr HCB2.out HCB3.out hgr HXL3.out hA4; rw [HXL.out] at hv4; subst hv4; have HCB4 := Lib.hid ST4.st; clear ST4 hA4))
      go_roundw
      case rel => exact ⟨A1', A2', cap1', cap2', k + 1, _, _, _, rfl, rfl, by go_num, by omega, Lib.hid ⟨by simp [HNL.out], by simp [HXL.out]⟩, Lib.hid (by rw [HTK.out.1, HNN.out]), Lib.hid (by rw [HTK.out.2.1, List.map_append, HXX.out, List.map_cons, List.map_nil, HXT.out]), Lib.hid HTK.out.2.2.symm, HCB4⟩
      case measure => simp [intOf]; omega
    · obtain rfl : k = n := by omega
      have HF : Hid ((l.take k).map (fun x => colN x.t) = l.map (fun x => colN x.t) ∧ (l.take k).map (fun x => colE x.t) = l.map (fun x => colE x.t) ∧ E = orE e (firsts (l.flatMap fun x => colErrs x.t))) := Lib.hid (by
        have h1 := HEE.out
        rw [List.take_of_length_le (by rw [HL.out]; exact Nat.le_refl _)] at h1 ⊢
        exact ⟨rfl, rfl, by rw [h1, foldl_orE]⟩)
      go_wp2
      go_ret2
      obtain ⟨N', hNv, hNl, hNs⟩ := HS.out.ns.sle encS1
      obtain ⟨X', hXv, hXl, hXs⟩ := HS.out.es.sle encE
      rw [HNK.out.1] at hNv
      rw [HNK.out.2] at hXv
      rw [hNv, hXv]
      exact ⟨N', X', rfl, by rw [hNl, HNN.out, HF.out.1], by rw [hXl, HXX.out, HF.out.2.1], hNs, hXs, fun x hx => (HS.out.lies x (by rwa [hXl] at hx)).less (fun k hk => by cases hk), HF.out.2.2 ▸ HS.out.rd⟩
end Go.Proofs.YtojbahjebfcmgaaGreatDoor
