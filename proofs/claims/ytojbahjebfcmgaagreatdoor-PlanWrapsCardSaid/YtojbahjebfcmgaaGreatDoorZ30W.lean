/-
  Texts that belong together: Package plan: the reader: aggregates of a group. Package plan: the reader: plans within a plan. Package plan: the trees of a plan's parts: atoms, open, aggTree. Trees made within a drawn region: what is known of them together (for XRegionG): a slice of the region's own, and others that avoid it.
-/
import Derived.Test.YtojbahjebfcmgaaGreatDoorZ29W
import Derived.Test.YtojbahjebfcmgaaGreatDoorZ1W
import Derived.Test.YtojbahjebfcmgaaGreatDoorZ25W
namespace Go.Proofs.YtojbahjebfcmgaaGreatDoor
open Go.RowKit
set_option linter.unusedVariables false

theorem Tryz.infoAgg : (Tryz.prog.info? 63).map (fun i => (i.zero, i.size, i.bytes)) = some (some (.agg #[.string ⟨#[]⟩, .string ⟨#[]⟩, .string ⟨#[]⟩]), 3, 48) := by kernel_rfl
theorem Tryz.underlying_aggs : Tryz.prog.underlying 24 = some (.slice 63) := by kernel_rfl
/-- A box of an Agg, no older than b. -/
def NewA (b : Nat) (v : Value) (w : World) : Prop := ∃ g c0 c1 c2, v = .pointer (some ⟨g, 0, none⟩) ∧ Bx 63 g #[c0, c1, c2] w ∧ b ≤ g
theorem NewA.mono (b : Nat) : Mono (NewA b) := fun v w w' hE h => by
  obtain ⟨g, c0, c1, c2, e, hB, hb⟩ := h
  exact ⟨g, c0, c1, c2, e, hB.ev hE, hb⟩
/-- The reader turns, or a box of an Agg is stored into. -/
def JA (gr b : Nat) (w w' : World) : Prop := But [gr] w w' ∨ ∃ (g : Nat) (v0 v1 v2 : Value), b ≤ g ∧ (∃ c0 c1 c2, Bx 63 g #[c0, c1, c2] w) ∧ w' = set3 g v0 v1 v2 w
theorem NewA.jump (gr b : Nat) (hg : gr < b) : ∀ v w w', JA gr b w w' → NewA b v w → NewA b v w' := by
  rintro v w w' (hb | ⟨g, v0, v1, v2, _, ⟨c0, c1, c2, hB⟩, rfl⟩) ⟨g', d0, d1, d2, e, hB', hb'⟩
  · exact ⟨g', d0, d1, d2, e, hB'.but hb (by simp; omega), hb'⟩
  · by_cases hgg : g' = g
    · subst hgg
      exact ⟨g', v0, v1, v2, e, hB'.set3 _ _ _, hb'⟩
    · exact ⟨g', d0, d1, d2, e, hB'.but (set3_but g v0 v1 v2 w) (by simp; exact hgg), hb'⟩
def BxA (b : Nat) (s f c : ByteArray) (v : Value) (w : World) : Prop := ∃ g, v = .pointer (some ⟨g, 0, none⟩) ∧ Bx 63 g #[.string s, .string f, .string c] w ∧ b ≤ g
theorem BxA.mono (b : Nat) (s f c : ByteArray) : Mono (BxA b s f c) := fun v w w' hE h => by
  obtain ⟨g, e, hB, hb⟩ := h
  exact ⟨g, e, hB.ev hE, hb⟩
theorem run_alloc_agg {ρ : Operand → Value} {o : Oper} {w : World} (ho : o.op = .alloc 63) :
    (execOp ρ o).run Tryz.prog w = .ok (.value (.pointer (some ⟨w.heap.size, 0, none⟩))) (w.alloc (.cells #[.string ⟨#[]⟩, .string ⟨#[]⟩, .string ⟨#[]⟩] 63)) := by
  unfold execOp
  rw [ho]
  simp [go_sem]
theorem agg_two {x : M} (h : isAggT x.t = true) : x.kids.length = 2 ∨ x.kids.length = 3 := by
  unfold isAggT at h
  simp only [Bool.and_eq_true, Bool.or_eq_true, beq_iff_eq] at h
  have := h.2
  rwa [M.t_kids, List.length_map] at this
theorem kid_third {b0 gr : Nat} {w : World} {x : M} (h : Lies b0 [gr] w x) {b off : Nat} (hA : x.A = some ⟨b, off, none⟩) {i : Nat} {x2 : M} (hx : x.kids[i]? = some x2) : ∀ w1, But [gr] w w1 →
    (w1.cell? ⟨b, off + i * 5, none⟩ = some (.int .i64 x2.kind) ∧ w1.cell? ⟨b, off + i * 5 + 1, none⟩ = some (.string ⟨x2.s.toArray⟩) ∧ w1.cell? ⟨b, off + i * 5 + 2, none⟩ = some (.int .i64 x2.n) ∧ w1.cell? ⟨b, off + i * 5 + 3, none⟩ = some (.slice x2.A x2.kids.length x2.cap) ∧ w1.cell? ⟨b, off + i * 5 + 4, none⟩ = some (.int .i64 (x2.pos : Int))) := by
  intro w1 hb
  have hgb : b ≠ gr := by
    cases h with
    | mk h1 h2 h3 =>
      have := (h2 _ hA).2.2
      simpa using this
  have hms := h.ms
  rw [hA] at hms
  exact Ms.cell3 (hms.but hb fun ad e => by cases e; simp; exact hgb) hx
/-- In the midst of one: the list so far, the box of the tree, the box of the aggregate. -/
structure AgSt (w0 : World) (gr : Nat) (A1 : Option Addr) (k cap1 : Nat) (L : List Ag) (e : Er) (gb : Nat) (bc : Array Value) (g8 : Nat) (ac8 : Array Value) (w : World) : Prop where
  st : LsSt 63 3 ac w0 gr A1 k cap1 L e w
  bx : Bx 67 gb bc w
  ba : Bx 63 g8 ac8 w
  nr : gb ≠ gr
  n8 : g8 ≠ gr
  lo : w0.heap.size ≤ g8
  ns : ∀ g, (Value.slice A1 k cap1).ownBlock = some g → g ≠ g8
theorem AgSt.through {w0 wr wq : World} {gr gb g8 : Nat} {bc ac8 : Array Value} {A1 : Option Addr} {k cap1 : Nat} {L : List Ag} {e e' : Er} (h : AgSt w0 gr A1 k cap1 L e gb bc g8 ac8 wr) (hr : RdOut gr e' wr wq) (hg : gr < w0.heap.size) : AgSt w0 gr A1 k cap1 L e' gb bc g8 ac8 wq :=
  ⟨⟨h.st.owq hr hg, h.st.len, h.st.rd.then hr⟩, h.bx.but hr.but (by simp; exact h.nr), h.ba.but hr.but (by simp; exact h.n8), h.nr, h.n8, h.lo, h.ns⟩
theorem AgSt.ev {w0 wr wq : World} {gr gb g8 : Nat} {bc ac8 : Array Value} {A1 : Option Addr} {k cap1 : Nat} {L : List Ag} {e : Er} (h : AgSt w0 gr A1 k cap1 L e gb bc g8 ac8 wr) (hE : Ev wr wq) : AgSt w0 gr A1 k cap1 L e gb bc g8 ac8 wq :=
  ⟨⟨h.st.own.ev hE, h.st.len, h.st.rd.ev hE⟩, h.bx.ev hE, h.ba.ev hE, h.nr, h.n8, h.lo, h.ns⟩

theorem AgSt.store2 {w0 wr : World} {gr gb g8 : Nat} {bc : Array Value} {v0 v1 v2 : Value} {A1 : Option Addr} {k cap1 : Nat} {L : List Ag} {e : Er} (h : AgSt w0 gr A1 k cap1 L e gb bc g8 #[v0, v1, v2] wr) (v : Value) : AgSt w0 gr A1 k cap1 L e gb bc g8 #[v0, v1, v] (wr.setCell ⟨g8, 2, none⟩ v) := by
  have hb : But [g8] wr (wr.setCell ⟨g8, 2, none⟩ v) := But.setCell _ _ (by simp)
  by_cases hgb : gb = g8
  · exfalso
    have h1 := h.bx.blk
    rw [hgb, h.ba.blk] at h1
    injection h1 with h1
    injection h1 with _ h2
    cases h2
  · refine ⟨⟨h.st.own.but hb (fun g hg => by simp; exact h.ns g hg), h.st.len, h.st.rd.bx.but hb (by simp; exact fun e => h.n8 e.symm), h.st.rd.but.trans hb fun y hy => by simp at hy; subst hy; exact .inr h.lo⟩, h.bx.but hb (by simp; exact hgb), ?_, h.nr, h.n8, h.lo, h.ns⟩
    have := h.ba.set 2 v
    rw [show ((#[v0, v1, v2] : Array Value).setIfInBounds 2 v) = #[v0, v1, v] by simp] at this
    exact this

set_option maxRecDepth 100000 in
set_option maxHeartbeats 16000000 in
theorem rd_aggs (gr : Nat) (e : Er) (l : List M) (A : Option Addr) (n cap b0 : Nat) (w : World) (hB : Rb gr e w) (h : Ms w A n cap l) (hr : Rng b0 [gr] w A) (hn : n ≤ 10000) (hagg : ∀ x ∈ l, isAggT x.t = true) (hlies : ∀ x ∈ l, Lies b0 [gr] w x) :
    Calls Tryz.prog 58 #[.pointer (some ⟨gr, 0, none⟩), .slice A n cap] w fun r w' => ∃ x : Sle Ag, r = .returned x.v ∧ x.l = l.map (fun x => agOf x.t) ∧ SleAt 3 ac w.heap.size [] w' x ∧ RdOut gr (orE e (firsts (l.flatMap fun x => agErrs x.t))) w w' := by
  have hmix : Tryz.prog.follows .mixedOrders = true := by kernel_rfl
  have hcl := h.le
  have hcm := h.max
  have HL := Lib.hid h.len
  have hgr := hB.lt
  have HS0 := Lib.hid (LsSt.start 63 3 ac hB)
  have HMS := Lib.hid (fun w1 (hb : But [gr] w w1) => h.but hb fun ad e => (hr ad e).2.2)
  have HRN := Lib.hid (fun m e w1 hB => rd_name gr e m w1 hB)
  have HRF := Lib.hid (fun e pos w1 hB => rd_fail gr e 12 pos (by decide) w1 hB)
  have HIF := Lib.hid (fun s o w1 => pl_isFunction s o w1)
  have HLIES := Lib.hid (fun x hx w1 (hb : But [gr] w w1) => (hlies x hx).move hb fun _ hy => .inl hy)
  have HAGG := Lib.hid hagg
  clear hB h hr hagg hlies
  go_enter Tryz.func58, Tryz.ntmps58
  go_wp2
  go_loopw [5, 11] (fun av iv wr => ∃ (A1 : Option Addr) (cap1 k : Nat) (E : Er), av = .slice A1 k cap1 ∧ iv = .int .i64 (k : Int) ∧ k ≤ n ∧ Hid (E = (((l.take k).flatMap fun x => agErrs x.t).foldl orE e)) ∧ Hid (LsSt 63 3 ac w gr A1 k cap1 ((l.take k).map fun x => agOf x.t) E wr)) (fun _ iv _ => n - (intOf iv).toNat)
  case atStart => exact ⟨none, 0, 0, e, rfl, rfl, Nat.zero_le _, Lib.hid rfl, HS0⟩
  case round =>
    obtain ⟨A1, cap1, k, E, rfl, rfl, hk, HEE, HS⟩ := hrel
    by_cases hlt : k < n
    · obtain ⟨x, hx⟩ := (HMS.out w (But.refl _ _)).at hlt
      have hxm := List.mem_of_getElem? hx
      obtain ⟨b, off, rfl, hb, c0, c1, c2, c3, c4⟩ := Ms.cell (HMS.out wr HS.out.rd.but) hx
      unfold M.kv at c3
      have hk23 := agg_two (HAGG.out x hxm)
      have hcapl := (HLIES.out x hxm w (But.refl _ _)).ms.le
      have hcapm : x.cap ≤ 9223372036854775807 := (HLIES.out x hxm w (But.refl _ _)).ms.max
      obtain ⟨b', off', x0, x1, hxA, hx0, hx1, hKC⟩ := kids_two (HLIES.out x hxm w (But.refl _ _)) (n := x.kids.length - 2) (by omega)
      have HKC := Lib.hid hKC
      have HK2 := Lib.hid (fun x2 (h2 : x.kids[2]? = some x2) => kid_third (HLIES.out x hxm w (But.refl _ _)) hxA h2)
      have HX0 := Lib.hid hx0
      have HX1 := Lib.hid hx1
      have HX := Lib.hid hx
      have HXM := Lib.hid hxm
      rw [hxA] at c3
      obtain ⟨kn, hkn⟩ : ∃ kn, kn = x.kids.length := ⟨_, rfl⟩
      rw [← hkn] at c3 hcapl hk23
      have HKN := Lib.hid hkn
      have hb8 : Bx 67 wr.heap.size #[.int .i64 x.kind, .string ⟨x.s.toArray⟩, .int .i64 x.n, .slice (some ⟨b', off', none⟩) kn x.cap, .int .i64 (x.pos : Int)] (wr.alloc (.cells #[.int .i64 x.kind, .string ⟨x.s.toArray⟩, .int .i64 x.n, .slice (some ⟨b', off', none⟩) kn x.cap, .int .i64 (x.pos : Int)] 67)) := Bx.new _ _ _
      have hEb := Ev.alloc wr (.cells #[.int .i64 x.kind, .string ⟨x.s.toArray⟩, .int .i64 x.n, .slice (some ⟨b', off', none⟩) kn x.cap, .int .i64 (x.pos : Int)] 67)
      have hsb : (wr.alloc (.cells #[.int .i64 x.kind, .string ⟨x.s.toArray⟩, .int .i64 x.n, .slice (some ⟨b', off', none⟩) kn x.cap, .int .i64 (x.pos : Int)] 67)).heap.size = wr.heap.size + 1 := by simp
      have HEB := Lib.hid hEb
      have i1 : (0 : Int) ≤ (k : Int) := by omega
      have i2 : (k : Int) < (n : Int) := by omega
      have i3 : (0 : Int) < (kn : Int) := by omega
      have i4 : (1 : Int) < (kn : Int) := by omega
      have n0 : ¬ kn = 0 := by omega
      have hgw : gr < wr.heap.size := HS.out.rd.bx.lt
      have hww := HS.out.rd.but.size
      have hbb : b' < w.heap.size ∧ b' ≠ gr := by
        have h1 := HLIES.out x hxm w (But.refl _ _)
        cases h1 with
        | mk h1 h2 h3 =>
          have := h2 _ hxA
          exact ⟨this.2.1, by simpa using this.2.2⟩
      clear hx hxm hx0 hx1 hxA hKC hkn hb hEb
      go_upto_region 5 with fail
      generalize hwA : wr.alloc (.cells #[.int .i64 x.kind, .string ⟨x.s.toArray⟩, .int .i64 x.n, .slice (some ⟨b', off', none⟩) kn x.cap, .int .i64 (x.pos : Int)] 67) = wA at *
      clear hwA c0 c1 c2 c3 c4
      have HB8 := Lib.hid hb8
      have HSB := Lib.hid hsb
      obtain ⟨⟨d0, d1, d2, d3, d4⟩, _⟩ := hb8.five
      have hbut : But [gr] w wA := HS.out.rd.but.then (But.of_ev HEB.out)
      have HBUT := Lib.hid hbut
      obtain ⟨⟨k0, k1, k2, k3, k4⟩, j0, j1, j2, j3, j4⟩ := HKC.out _ hbut
      have hlA := HB8.out.lt
      have hszA := hbut.size
      generalize hgb : wr.heap.size = gb at *
      clear hb8 hsb hbut
      refine wp_region_slotsP hmix (fun u => But [gr] wA u) (JA gr (gb + 1)) [5, 13] (fun p u => Rb gr (if p = 0 then E else orE E (nmErr x0.t)) u) 13 12 8 (BxA (gb + 1) ⟨x0.s.toArray⟩ ⟨x1.s.toArray⟩ ⟨#[]⟩) [fun v _ => v = .pointer (some ⟨gr, 0, none⟩), fun v _ => v = .pointer (some ⟨gb, 3, none⟩), fun v _ => v = .slice (some ⟨b', off', none⟩) kn x.cap, fun v _ => v = .pointer (some ⟨b', off', none⟩), fun v _ => v = .agg #[.int .i64 x0.kind, .string ⟨x0.s.toArray⟩, .int .i64 x0.n, .slice x0.A x0.kids.length x0.cap, .int .i64 (x0.pos : Int)], fun v _ => v = .string ⟨x0.s.toArray⟩, fun v _ => v = .pointer (some ⟨gb, 3, none⟩), fun v _ => v = .slice (some ⟨b', off', none⟩) kn x.cap, fun v _ => v = .pointer (some ⟨b', off' + 5, none⟩), fun v _ => v = .pointer (some ⟨b', off' + 5 + 1, none⟩), fun v _ => v = .string ⟨x1.s.toArray⟩, fun v _ => v = .agg #[.string ⟨x0.s.toArray⟩, .string ⟨x1.s.toArray⟩, .string ⟨#[]⟩], NewA (gb + 1), fun _ _ => True]
        59 2 1 rfl (by kernel_rfl) ⟨mono_eq _, mono_eq _, mono_eq _, mono_eq _, mono_eq _, mono_eq _, mono_eq _, mono_eq _, mono_eq _, mono_eq _, mono_eq _, mono_eq _, NewA.mono _, mono_true, trivial⟩ ⟨fun _ _ _ _ h => h, fun _ _ _ _ h => h, fun _ _ _ _ h => h, fun _ _ _ _ h => h, fun _ _ _ _ h => h, fun _ _ _ _ h => h, fun _ _ _ _ h => h, fun _ _ _ _ h => h, fun _ _ _ _ h => h, fun _ _ _ _ h => h, fun _ _ _ _ h => h, fun _ _ _ _ h => h, NewA.jump _ _ (by omega), fun _ _ _ _ h => h, trivial⟩ (by kernel_rfl) (fun p u u' hE h => h.ev hE) (fun u u' hE h => h.then (But.of_ev hE)) (But.refl _ _) (HS.out.rd.bx.ev HEB.out) (by kernel_rfl) (BxA.mono _ _ _ _) rfl rfl _ rfl (by kernel_rfl) (by kernel_rfl) ?_ ?_ ?_ ?_
      · refine opc_cons 0 ?_ (opc_cons 1 ?_ (opc_cons 2 ?_ (opc_cons 3 ?_ (opc_cons 4 ?_ (opc_turn 5 (by decide) (opc_cons 6 ?_ (opc_cons 7 ?_ (opc_cons 8 ?_ (opc_cons 9 ?_ (opc_cons 10 ?_ (opc_cons 11 ?_ (opc_cons 12 ?_ (opc_turn 13 (by decide) (opc_nil 14))))))))))))))
        · refine opc_value fun a w c => ⟨(wanted_plain rfl), _, run_move _ rfl w, (c.was 0 (by kernel_rfl) rfl)⟩
        · refine opc_value fun a wq c => ⟨(wanted_plain rfl), .pointer (some ⟨gb, 3, none⟩), ?_, rfl⟩
          have e_0 : a.eval (.tmp 7) = .pointer (some ⟨gb, 0, none⟩) := (c.was 7 (by kernel_rfl) rfl)
          generalize a.eval = ρ at e_0 ⊢
          simp [execOp, e_0, go_sem]
        · refine opc_value fun a wq c => ⟨(wanted_plain rfl), .slice (some ⟨b', off', none⟩) kn x.cap, ?_, rfl⟩
          have e_0 : a.eval (.tmp 16) = .pointer (some ⟨gb, 3, none⟩) := (c.new 1 16 (by kernel_rfl) (by kernel_rfl))
          have hc := (c.inv.cellq (p := ⟨gb, 3, none⟩) hlA (by simp; omega)).trans d3
          generalize a.eval = ρ at e_0 ⊢
          simp [execOp, e_0, hc, go_sem]
        · refine opc_value fun a wq c => ⟨(wanted_plain rfl), .pointer (some ⟨b', off', none⟩), ?_, rfl⟩
          have e_0 : a.eval (.tmp 17) = .slice (some ⟨b', off', none⟩) kn x.cap := (c.new 2 17 (by kernel_rfl) (by kernel_rfl))
          have kc0 : a.eval (.const (.int .i64 0)) = .int .i64 0 := rfl
          generalize a.eval = ρ at e_0 kc0 ⊢
          simp [execOp, e_0, kc0, go_sem, n0]
        · refine opc_value fun a wq c => ⟨(wanted_plain rfl), .agg #[.int .i64 x0.kind, .string ⟨x0.s.toArray⟩, .int .i64 x0.n, .slice x0.A x0.kids.length x0.cap, .int .i64 (x0.pos : Int)], ?_, rfl⟩
          have e_0 : a.eval (.tmp 18) = .pointer (some ⟨b', off', none⟩) := (c.new 3 18 (by kernel_rfl) (by kernel_rfl))
          have q0 := (c.inv.cellq (p := ⟨b', off', none⟩) (by show b' < _; omega) (by simp; exact hbb.2)).trans k0
          have q1 := (c.inv.cellq (p := ⟨b', off' + 1, none⟩) (by show b' < _; omega) (by simp; exact hbb.2)).trans k1
          have q2 := (c.inv.cellq (p := ⟨b', off' + 2, none⟩) (by show b' < _; omega) (by simp; exact hbb.2)).trans k2
          have q3 := (c.inv.cellq (p := ⟨b', off' + 3, none⟩) (by show b' < _; omega) (by simp; exact hbb.2)).trans k3
          have q4 := (c.inv.cellq (p := ⟨b', off' + 4, none⟩) (by show b' < _; omega) (by simp; exact hbb.2)).trans k4
          generalize a.eval = ρ at e_0 ⊢
          simp [execOp, e_0, q0, q1, q2, q3, q4, go_sem]
        · refine opc_value fun a wq c => ⟨(wanted_plain rfl), .pointer (some ⟨gb, 3, none⟩), ?_, rfl⟩
          have e_0 : a.eval (.tmp 7) = .pointer (some ⟨gb, 0, none⟩) := (c.was 7 (by kernel_rfl) rfl)
          generalize a.eval = ρ at e_0 ⊢
          simp [execOp, e_0, go_sem]
        · refine opc_value fun a wq c => ⟨(wanted_plain rfl), .slice (some ⟨b', off', none⟩) kn x.cap, ?_, rfl⟩
          have e_0 : a.eval (.tmp 21) = .pointer (some ⟨gb, 3, none⟩) := (c.new 6 21 (by kernel_rfl) (by kernel_rfl))
          have hc := (c.inv.cellq (p := ⟨gb, 3, none⟩) hlA (by simp; omega)).trans d3
          generalize a.eval = ρ at e_0 ⊢
          simp [execOp, e_0, hc, go_sem]
        · refine opc_value fun a wq c => ⟨(wanted_plain rfl), .pointer (some ⟨b', off' + 5, none⟩), ?_, rfl⟩
          have e_0 : a.eval (.tmp 22) = .slice (some ⟨b', off', none⟩) kn x.cap := (c.new 7 22 (by kernel_rfl) (by kernel_rfl))
          have kc0 : a.eval (.const (.int .i64 1)) = .int .i64 1 := rfl
          generalize a.eval = ρ at e_0 kc0 ⊢
          simp [execOp, e_0, kc0, go_sem, i4]
        · refine opc_value fun a wq c => ⟨(wanted_plain rfl), .pointer (some ⟨b', off' + 5 + 1, none⟩), ?_, rfl⟩
          have e_0 : a.eval (.tmp 23) = .pointer (some ⟨b', off' + 5, none⟩) := (c.new 8 23 (by kernel_rfl) (by kernel_rfl))
          generalize a.eval = ρ at e_0 ⊢
          simp [execOp, e_0, go_sem]
        · refine opc_value fun a wq c => ⟨(wanted_plain rfl), .string ⟨x1.s.toArray⟩, ?_, rfl⟩
          have e_0 : a.eval (.tmp 24) = .pointer (some ⟨b', off' + 5 + 1, none⟩) := (c.new 9 24 (by kernel_rfl) (by kernel_rfl))
          have hc := (c.inv.cellq (p := ⟨b', off' + 5 + 1, none⟩) (by show b' < _; omega) (by simp; exact hbb.2)).trans j1
          generalize a.eval = ρ at e_0 ⊢
          simp [execOp, e_0, hc, go_sem]
        · refine opc_value fun a wq c => ⟨(wanted_plain rfl), .agg #[.string ⟨x0.s.toArray⟩, .string ⟨x1.s.toArray⟩, .string ⟨#[]⟩], ?_, rfl⟩
          have e_0 : a.eval (.tmp 20) = .string ⟨x0.s.toArray⟩ := (c.new 5 20 (by kernel_rfl) (by kernel_rfl))
          have e_1 : a.eval (.tmp 25) = .string ⟨x1.s.toArray⟩ := (c.new 10 25 (by kernel_rfl) (by kernel_rfl))
          generalize a.eval = ρ at e_0 e_1 ⊢
          simp [execOp, e_0, e_1, go_sem]
        · refine opc_makes fun a wq c => ⟨(wanted_plain rfl), _, _, run_alloc_agg rfl, Ev.alloc _ _, c.inv.then (But.of_ev (Ev.alloc _ _)), ⟨wq.heap.size, _, _, _, rfl, Bx.new _ _ _, by have := c.inv.size; have := HSB.out; omega⟩⟩
      · refine trp_cons 0 rfl ?_ (trp_last 1)
        · refine opt_call fun a wq c st => ⟨wanted_plain rfl, 53, #[.pointer (some ⟨gr, 0, none⟩), .agg #[.int .i64 x0.kind, .string ⟨x0.s.toArray⟩, .int .i64 x0.n, .slice x0.A x0.kids.length x0.cap, .int .i64 (x0.pos : Int)]], ?_, ?_⟩
          · rw [run_call 53 _ _ rfl (by kernel_rfl)]
            have e_0 : a.eval (.tmp 15) = .pointer (some ⟨gr, 0, none⟩) := (c.new 0 15 (by kernel_rfl) (by kernel_rfl))
            have e_1 : a.eval (.tmp 19) = .agg #[.int .i64 x0.kind, .string ⟨x0.s.toArray⟩, .int .i64 x0.n, .slice x0.A x0.kids.length x0.cap, .int .i64 (x0.pos : Int)] := (c.new 4 19 (by kernel_rfl) (by kernel_rfl))
            simp [e_0, e_1]
          · refine (HRN.out x0 E wq st).mono ?_
            rintro r wp ⟨rfl, hR⟩
            exact ⟨_, rfl, .inl hR.but, c.inv.then hR.but, hR.bx, rfl⟩
      · refine ⟨rfl, fun a wq c st => ?_⟩
        obtain ⟨g_, z0, z1, z2, eg_, hB_, hb_⟩ := (c.got 12 8 (by kernel_rfl) (by kernel_rfl) rfl : NewA _ _ _)
        have ev_0 : a.eval (.tmp 26) = .agg #[.string ⟨x0.s.toArray⟩, .string ⟨x1.s.toArray⟩, .string ⟨#[]⟩] := (c.new 11 26 (by kernel_rfl) (by kernel_rfl))
        obtain ⟨⟨z0_, z1_, z2_⟩, y0_, y1_, y2_⟩ := hB_.three
        refine ⟨wanted_plain rfl, set3 g_ (.string ⟨x0.s.toArray⟩) (.string ⟨x1.s.toArray⟩) (.string ⟨#[]⟩) wq, ?_, .inr ⟨g_, _, _, _, hb_, ⟨_, _, _, hB_⟩, rfl⟩, c.inv.trans (set3_but _ _ _ _ _) (fun y hy => by simp at hy; subst hy; exact .inr (by have := HSB.out; omega)), st.but (set3_but _ _ _ _ _) (by simp; omega), trivial, ⟨g_, eg_, hB_.set3 _ _ _, hb_⟩⟩
        generalize a.eval = ρ at eg_ ev_0 ⊢
        simp [execOp, eg_, ev_0, go_sem, z0_, z1_, z2_, y0_, y1_, y2_, set3]
      intro sl wB hI hold hnew hst hps
      obtain ⟨g8, f8, BA, hb8⟩ := hps
      have f0 : sl 0 = .pointer (some ⟨gr, 0, none⟩) := hold 0 (by kernel_rfl)
      have f1 : sl 1 = .slice (some ⟨b, off, none⟩) n cap := hold 1 (by kernel_rfl)
      have f2 : sl 2 = undef := hold 2 (by kernel_rfl)
      have f3 : sl 3 = undef := hold 3 (by kernel_rfl)
      have f4 : sl 4 = .slice none 0 0 := hold 4 (by kernel_rfl)
      have f5 : sl 5 = .slice A1 k cap1 := hold 5 (by kernel_rfl)
      have f6 : sl 6 = undef := hold 6 (by kernel_rfl)
      have f7 : sl 7 = .pointer (some ⟨gb, 0, none⟩) := hold 7 (by kernel_rfl)
      have f9 : sl 9 = .slice (some ⟨b, off, none⟩) n cap := hold 9 (by kernel_rfl)
      have f10 : sl 10 = .int .i64 (n : Int) := hold 10 (by kernel_rfl)
      have f11 : sl 11 = .int .i64 (k : Int) := hold 11 (by kernel_rfl)
      have f12 : sl 12 = .bool true := hold 12 (by kernel_rfl)
      have f13 : sl 13 = .pointer (some ⟨b, off + k * 5, none⟩) := hold 13 (by kernel_rfl)
      have f14 : sl 14 = .agg #[.int .i64 x.kind, .string ⟨x.s.toArray⟩, .int .i64 x.n, .slice (some ⟨b', off', none⟩) kn x.cap, .int .i64 (x.pos : Int)] := hold 14 (by kernel_rfl)
      have f27 : sl 27 = u27 := hold 27 (by kernel_rfl)
      have f28 : sl 28 = u28 := hold 28 (by kernel_rfl)
      have f29 : sl 29 = u29 := hold 29 (by kernel_rfl)
      have f30 : sl 30 = u30 := hold 30 (by kernel_rfl)
      have f31 : sl 31 = u31 := hold 31 (by kernel_rfl)
      have f32 : sl 32 = u32 := hold 32 (by kernel_rfl)
      have f33 : sl 33 = u33 := hold 33 (by kernel_rfl)
      have f34 : sl 34 = u34 := hold 34 (by kernel_rfl)
      have f35 : sl 35 = u35 := hold 35 (by kernel_rfl)
      have f36 : sl 36 = u36 := hold 36 (by kernel_rfl)
      have f37 : sl 37 = u37 := hold 37 (by kernel_rfl)
      have f38 : sl 38 = u38 := hold 38 (by kernel_rfl)
      have f39 : sl 39 = u39 := hold 39 (by kernel_rfl)
      have f40 : sl 40 = u40 := hold 40 (by kernel_rfl)
      have f41 : sl 41 = u41 := hold 41 (by kernel_rfl)
      have f42 : sl 42 = u42 := hold 42 (by kernel_rfl)
      have f43 : sl 43 = u43 := hold 43 (by kernel_rfl)
      have f44 : sl 44 = u44 := hold 44 (by kernel_rfl)
      have f45 : sl 45 = u45 := hold 45 (by kernel_rfl)
      have f46 : sl 46 = u46 := hold 46 (by kernel_rfl)
      have f47 : sl 47 = u47 := hold 47 (by kernel_rfl)
      have f48 : sl 48 = u48 := hold 48 (by kernel_rfl)
      have f49 : sl 49 = u49 := hold 49 (by kernel_rfl)
      have f50 : sl 50 = u50 := hold 50 (by kernel_rfl)
      have f51 : sl 51 = u51 := hold 51 (by kernel_rfl)
      have f52 : sl 52 = u52 := hold 52 (by kernel_rfl)
      have f53 : sl 53 = u53 := hold 53 (by kernel_rfl)
      have f54 : sl 54 = u54 := hold 54 (by kernel_rfl)
      have f55 : sl 55 = u55 := hold 55 (by kernel_rfl)
      have f56 : sl 56 = u56 := hold 56 (by kernel_rfl)
      have f57 : sl 57 = u57 := hold 57 (by kernel_rfl)
      have f58 : sl 58 = undef := hold 58 (by kernel_rfl)
      have f15 : sl 15 = .pointer (some ⟨gr, 0, none⟩) := hnew 0 15 (by kernel_rfl)
      have f16 : sl 16 = .pointer (some ⟨gb, 3, none⟩) := hnew 1 16 (by kernel_rfl)
      have f17 : sl 17 = .slice (some ⟨b', off', none⟩) kn x.cap := hnew 2 17 (by kernel_rfl)
      have f18 : sl 18 = .pointer (some ⟨b', off', none⟩) := hnew 3 18 (by kernel_rfl)
      have f19 : sl 19 = .agg #[.int .i64 x0.kind, .string ⟨x0.s.toArray⟩, .int .i64 x0.n, .slice x0.A x0.kids.length x0.cap, .int .i64 (x0.pos : Int)] := hnew 4 19 (by kernel_rfl)
      have f20 : sl 20 = .string ⟨x0.s.toArray⟩ := hnew 5 20 (by kernel_rfl)
      have f21 : sl 21 = .pointer (some ⟨gb, 3, none⟩) := hnew 6 21 (by kernel_rfl)
      have f22 : sl 22 = .slice (some ⟨b', off', none⟩) kn x.cap := hnew 7 22 (by kernel_rfl)
      have f23 : sl 23 = .pointer (some ⟨b', off' + 5, none⟩) := hnew 8 23 (by kernel_rfl)
      have f24 : sl 24 = .pointer (some ⟨b', off' + 5 + 1, none⟩) := hnew 9 24 (by kernel_rfl)
      have f25 : sl 25 = .string ⟨x1.s.toArray⟩ := hnew 10 25 (by kernel_rfl)
      have f26 : sl 26 = .agg #[.string ⟨x0.s.toArray⟩, .string ⟨x1.s.toArray⟩, .string ⟨#[]⟩] := hnew 11 26 (by kernel_rfl)
      change Exit.then _ _ .normal ⟨#[sl 0, sl 1, sl 2, sl 3, sl 4, sl 5, sl 6, sl 7, sl 8, sl 9, sl 10, sl 11, sl 12, sl 13, sl 14, sl 15, sl 16, sl 17, sl 18, sl 19, sl 20, sl 21, sl 22, sl 23, sl 24, sl 25, sl 26, sl 27, sl 28, sl 29, sl 30, sl 31, sl 32, sl 33, sl 34, sl 35, sl 36, sl 37, sl 38, sl 39, sl 40, sl 41, sl 42, sl 43, sl 44, sl 45, sl 46, sl 47, sl 48, sl 49, sl 50, sl 51, sl 52, sl 53, sl 54, sl 55, sl 56, sl 57, sl 58], _⟩ _
      simp only [f8, f0, f1, f2, f3, f4, f5, f6, f7, f9, f10, f11, f12, f13, f14, f27, f28, f29, f30, f31, f32, f33, f34, f35, f36, f37, f38, f39, f40, f41, f42, f43, f44, f45, f46, f47, f48, f49, f50, f51, f52, f53, f54, f55, f56, f57, f58, f15, f16, f17, f18, f19, f20, f21, f22, f23, f24, f25, f26]
      clear hold hnew
      have hRO : RdOut gr (orE E (nmErr x0.t)) wA wB := ⟨hst, hI⟩
      have hLA : LsSt 63 3 ac w gr A1 k cap1 ((l.take k).map fun x => agOf x.t) E wA := ⟨HS.out.own.ev HEB.out, HS.out.len, HS.out.rd.ev HEB.out⟩
      have hAG : AgSt w gr A1 k cap1 ((l.take k).map fun x => agOf x.t) (orE E (nmErr x0.t)) gb #[.int .i64 x.kind, .string ⟨x.s.toArray⟩, .int .i64 x.n, .slice (some ⟨b', off', none⟩) kn x.cap, .int .i64 (x.pos : Int)] g8 #[.string ⟨x0.s.toArray⟩, .string ⟨x1.s.toArray⟩, .string ⟨#[]⟩] wB :=
        ⟨⟨hLA.owq hRO hgr, hLA.len, hLA.rd.then hRO⟩, HB8.out.but hI (by simp; omega), BA, by omega, by omega, by omega, fun g hg => by have := (HS.out.own.lt hg).2; omega⟩
      have HAG := Lib.hid hAG
      have HTK : Hid ((l.take (k + 1)).map (fun x => agOf x.t) = (l.take k).map (fun x => agOf x.t) ++ [agOf x.t] ∧ ((l.take (k + 1)).flatMap fun x => agErrs x.t).foldl orE e = (agErrs x.t).foldl orE E) := Lib.hid (by
        obtain ⟨hk2, e1⟩ := List.getElem?_eq_some_iff.1 HX.out
        rw [List.take_succ_eq_append_getElem hk2, e1, List.map_append, List.flatMap_append, List.foldl_append, ← HEE.out]
        simp only [List.map_cons, List.map_nil, List.flatMap_cons, List.flatMap_nil, List.append_nil]
        refine ⟨?_, ?_⟩ <;> first | rfl | trivial)
      have HNL := Lib.hid HS.out.len
      clear hst hI hRO hLA hAG BA d0 d1 d2 d3 d4 k0 k1 k2 k3 k4 j0 j1 j2 j3 j4
      obtain ⟨⟨a0_, a1_, a2_⟩, b0_, b1_, b2_⟩ := HAG.out.ba.three
      obtain ⟨⟨d0, d1, d2, d3, d4⟩, _⟩ := HAG.out.bx.five
      obtain ⟨⟨k0, k1, k2, k3, k4⟩, j0, j1, j2, j3, j4⟩ := HKC.out _ HAG.out.st.rd.but
      rcases hk23 with h23 | h23
      · subst h23
        have HAO : Hid (agOf x.t = (x0.s, x1.s, [])) := Lib.hid (by unfold agOf; rw [M.t_kids, at_m _ _ _ HX0.out, at_m _ _ _ HX1.out, M.t_s, M.t_s, List.length_map, ← HKN.out]; rfl)
        have HAE : Hid (agErrs x.t = [nmErr x0.t, if isFun x1.s false then (0, 0) else (12, x1.pos), (0, 0)]) := Lib.hid (by unfold agErrs; rw [M.t_kids, at_m _ _ _ HX0.out, at_m _ _ _ HX1.out, M.t_s, M.t_pos, List.length_map, ← HKN.out]; rfl)
        have HI := Lib.hid (HIF.out x1.s false)
        generalize isFun x1.s false = q at *
        cases q
        · go_wp2_with (first
            | ((with_reducible refine (HI.out _).mono ?_); rintro r w1 ⟨rfl, hE1⟩; have HAG1 := Lib.hid (HAG.out.ev hE1); clear a0_ a1_ a2_ b0_ b1_ b2_ d0 d1 d2 d3 d4 k0 k1 k2 k3 k4 j0 j1 j2 j3 j4; obtain ⟨⟨a0_, a1_, a2_⟩, b0_, b1_, b2_⟩ := HAG1.out.ba.three; obtain ⟨⟨d0, d1, d2, d3, d4⟩, _⟩ := HAG1.out.bx.five; obtain ⟨⟨k0, k1, k2, k3, k4⟩, j0, j1, j2, j3, j4⟩ := HKC.out _ HAG1.out.st.rd.but)
            | ((with_reducible refine (HRF.out _ x1.pos _ HAG1.out.st.rd.bx).mono ?_); rintro r w2 ⟨rfl, hR⟩; have HAG2 := Lib.hid (HAG1.out.through hR hgr); clear hR; clear a0_ a1_ a2_ b0_ b1_ b2_ d0 d1 d2 d3 d4 k0 k1 k2 k3 k4 j0 j1 j2 j3 j4; obtain ⟨⟨a0_, a1_, a2_⟩, b0_, b1_, b2_⟩ := HAG2.out.ba.three; obtain ⟨⟨d0, d1, d2, d3, d4⟩, _⟩ := HAG2.out.bx.five; obtain ⟨⟨k0, k1, k2, k3, k4⟩, j0, j1, j2, j3, j4⟩ := HKC.out _ HAG2.out.st.rd.but)
            | ((show wpList _ _ _ (⟨some 56, _, _, _, _, _⟩ :: _) _ _); refine wpList_append_ow (o := ⟨some 56, _, _, _, _, _⟩) rfl 24 (.tmp 53) (.tmp 55) rfl encA Tryz.underlying_aggs Tryz.infoAgg rfl rfl (HAG2.out.st.own.ev (Ev.alloc w2 _)) (some ⟨w2.heap.size, 0, none⟩) 1 1 [(x0.s, x1.s, [])] rfl (Sl.one (et := 63) encA w2 (x0.s, x1.s, []) _ rfl) (by rw [HNL.out]; simp; omega) (by rw [HNL.out]; simp; omega) (Nat.le_trans HAG2.out.st.rd.but.size (Ev.alloc w2 _).size) ?_; intro v2 w7 hA2; obtain ⟨A2, cap2, rfl, ST2⟩ := HAG2.out.st.next encA (RdOut.of HAG2.out.st.rd.bx (Ev.alloc w2 _)) hgr hA2))
          go_roundw
          case rel => exact ⟨A2, cap2, k + 1, orE (orE E (nmErr x0.t)) (12, x1.pos), rfl, by go_num, by omega, Lib.hid (by rw [HTK.out.2, HAE.out]; simp [orE_zero]), Lib.hid (by rw [HTK.out.1, HAO.out]; exact ST2)⟩
          case measure => simp [intOf]; omega
        · go_wp2_with (first
            | ((with_reducible refine (HI.out _).mono ?_); rintro r w1 ⟨rfl, hE1⟩; have HAG1 := Lib.hid (HAG.out.ev hE1); clear a0_ a1_ a2_ b0_ b1_ b2_ d0 d1 d2 d3 d4 k0 k1 k2 k3 k4 j0 j1 j2 j3 j4; obtain ⟨⟨a0_, a1_, a2_⟩, b0_, b1_, b2_⟩ := HAG1.out.ba.three; obtain ⟨⟨d0, d1, d2, d3, d4⟩, _⟩ := HAG1.out.bx.five; obtain ⟨⟨k0, k1, k2, k3, k4⟩, j0, j1, j2, j3, j4⟩ := HKC.out _ HAG1.out.st.rd.but)
            | ((show wpList _ _ _ (⟨some 56, _, _, _, _, _⟩ :: _) _ _); refine wpList_append_ow (o := ⟨some 56, _, _, _, _, _⟩) rfl 24 (.tmp 53) (.tmp 55) rfl encA Tryz.underlying_aggs Tryz.infoAgg rfl rfl (HAG1.out.st.own.ev (Ev.alloc w1 _)) (some ⟨w1.heap.size, 0, none⟩) 1 1 [(x0.s, x1.s, [])] rfl (Sl.one (et := 63) encA w1 (x0.s, x1.s, []) _ rfl) (by rw [HNL.out]; simp; omega) (by rw [HNL.out]; simp; omega) (Nat.le_trans HAG1.out.st.rd.but.size (Ev.alloc w1 _).size) ?_; intro v2 w7 hA2; obtain ⟨A2, cap2, rfl, ST2⟩ := HAG1.out.st.next encA (RdOut.of HAG1.out.st.rd.bx (Ev.alloc w1 _)) hgr hA2))
          go_roundw
          case rel => exact ⟨A2, cap2, k + 1, orE E (nmErr x0.t), rfl, by go_num, by omega, Lib.hid (by rw [HTK.out.2, HAE.out]; simp [orE_zero]), Lib.hid (by rw [HTK.out.1, HAO.out]; exact ST2)⟩
          case measure => simp [intOf]; omega
      · subst h23
        obtain ⟨x2, hx2⟩ : ∃ x2, x.kids[2]? = some x2 := ⟨_, List.getElem?_eq_getElem (by have := HKN.out; omega)⟩
        have HX2 := Lib.hid hx2
        have HK3 := Lib.hid (HK2.out x2 hx2)
        simp only [show 2 * 5 = 10 from rfl] at HK3
        clear hx2
        have i5 : (3 : Int) ≤ (x.cap : Int) := by omega
        have HAO : Hid (agOf x.t = (x0.s, x1.s, x2.s)) := Lib.hid (by unfold agOf; rw [M.t_kids, at_m _ _ _ HX0.out, at_m _ _ _ HX1.out, M.t_s, M.t_s, List.length_map, ← HKN.out]; rw [at_m _ _ _ HX2.out, M.t_s]; rfl)
        have HAE : Hid (agErrs x.t = [nmErr x0.t, if isFun x1.s true then (0, 0) else (12, x1.pos), nmErr x2.t]) := Lib.hid (by unfold agErrs; rw [M.t_kids, at_m _ _ _ HX0.out, at_m _ _ _ HX1.out, M.t_s, M.t_pos, List.length_map, ← HKN.out]; rw [at_m _ _ _ HX2.out]; rfl)
        have HI := Lib.hid (HIF.out x1.s true)
        generalize isFun x1.s true = q at *
        cases q
        · have HNM := Lib.hid (fun e1 w9 hB9 => HRN.out x2 e1 w9 hB9)
          obtain ⟨m0, m1, m2, m3, m4⟩ := HK3.out _ HAG.out.st.rd.but
          go_wp2_with (first
            | ((with_reducible refine (HI.out _).mono ?_); rintro r w1 ⟨rfl, hE1⟩; have HAG1 := Lib.hid (HAG.out.ev hE1); clear a0_ a1_ a2_ b0_ b1_ b2_ d0 d1 d2 d3 d4 k0 k1 k2 k3 k4 j0 j1 j2 j3 j4; obtain ⟨⟨a0_, a1_, a2_⟩, b0_, b1_, b2_⟩ := HAG1.out.ba.three; obtain ⟨⟨d0, d1, d2, d3, d4⟩, _⟩ := HAG1.out.bx.five; obtain ⟨⟨k0, k1, k2, k3, k4⟩, j0, j1, j2, j3, j4⟩ := HKC.out _ HAG1.out.st.rd.but; clear m0 m1 m2 m3 m4; obtain ⟨m0, m1, m2, m3, m4⟩ := HK3.out _ HAG1.out.st.rd.but)
            | ((with_reducible refine (HRF.out _ x1.pos _ HAG1.out.st.rd.bx).mono ?_); rintro r w2 ⟨rfl, hR⟩; have HAG2 := Lib.hid (HAG1.out.through hR hgr); clear hR; clear a0_ a1_ a2_ b0_ b1_ b2_ d0 d1 d2 d3 d4 k0 k1 k2 k3 k4 j0 j1 j2 j3 j4; obtain ⟨⟨a0_, a1_, a2_⟩, b0_, b1_, b2_⟩ := HAG2.out.ba.three; obtain ⟨⟨d0, d1, d2, d3, d4⟩, _⟩ := HAG2.out.bx.five; obtain ⟨⟨k0, k1, k2, k3, k4⟩, j0, j1, j2, j3, j4⟩ := HKC.out _ HAG2.out.st.rd.but; clear m0 m1 m2 m3 m4; obtain ⟨m0, m1, m2, m3, m4⟩ := HK3.out _ HAG2.out.st.rd.but)
            | ((with_reducible refine (HNM.out _ _ HAG2.out.st.rd.bx).mono ?_); rintro r w3 ⟨rfl, hR⟩; have HAG3 := Lib.hid (HAG2.out.through hR hgr); clear hR; clear a0_ a1_ a2_ b0_ b1_ b2_ d0 d1 d2 d3 d4 k0 k1 k2 k3 k4 j0 j1 j2 j3 j4; obtain ⟨⟨a0_, a1_, a2_⟩, b0_, b1_, b2_⟩ := HAG3.out.ba.three; obtain ⟨⟨d0, d1, d2, d3, d4⟩, _⟩ := HAG3.out.bx.five; obtain ⟨⟨k0, k1, k2, k3, k4⟩, j0, j1, j2, j3, j4⟩ := HKC.out _ HAG3.out.st.rd.but; clear m0 m1 m2 m3 m4; obtain ⟨m0, m1, m2, m3, m4⟩ := HK3.out _ HAG3.out.st.rd.but)
            | ((show wpList _ _ _ (⟨some 56, _, _, _, _, _⟩ :: _) _ _); have HAG4 := Lib.hid (HAG3.out.store2 (.string ⟨x2.s.toArray⟩)); refine wpList_append_ow (o := ⟨some 56, _, _, _, _, _⟩) rfl 24 (.tmp 53) (.tmp 55) rfl encA Tryz.underlying_aggs Tryz.infoAgg rfl rfl (HAG4.out.st.own.ev (Ev.alloc _ _)) (some ⟨w3.heap.size, 0, none⟩) 1 1 [(x0.s, x1.s, x2.s)] rfl (by have := Sl.one (et := 63) encA (w3.setCell ⟨g8, 2, none⟩ (.string ⟨x2.s.toArray⟩)) (x0.s, x1.s, x2.s) #[.string ⟨x0.s.toArray⟩, .string ⟨x1.s.toArray⟩, .string ⟨x2.s.toArray⟩] rfl; simpa [World.setCell] using this) (by rw [HNL.out]; simp; omega) (by rw [HNL.out]; simp; omega) (Nat.le_trans HAG4.out.st.rd.but.size (Ev.alloc _ _).size) ?_; intro v2 w7 hA2; obtain ⟨A2, cap2, rfl, ST2⟩ := HAG4.out.st.next encA (RdOut.of HAG4.out.st.rd.bx (Ev.alloc _ _)) hgr hA2))
          go_roundw
          case rel => exact ⟨A2, cap2, k + 1, orE (orE (orE E (nmErr x0.t)) (12, x1.pos)) (nmErr x2.t), rfl, by go_num, by omega, Lib.hid (by rw [HTK.out.2, HAE.out]; simp), Lib.hid (by rw [HTK.out.1, HAO.out]; exact ST2)⟩
          case measure => simp [intOf]; omega
        · have HNM := Lib.hid (fun e1 w9 hB9 => HRN.out x2 e1 w9 hB9)
          obtain ⟨m0, m1, m2, m3, m4⟩ := HK3.out _ HAG.out.st.rd.but
          go_wp2_with (first
            | ((with_reducible refine (HI.out _).mono ?_); rintro r w1 ⟨rfl, hE1⟩; have HAG1 := Lib.hid (HAG.out.ev hE1); clear a0_ a1_ a2_ b0_ b1_ b2_ d0 d1 d2 d3 d4 k0 k1 k2 k3 k4 j0 j1 j2 j3 j4; obtain ⟨⟨a0_, a1_, a2_⟩, b0_, b1_, b2_⟩ := HAG1.out.ba.three; obtain ⟨⟨d0, d1, d2, d3, d4⟩, _⟩ := HAG1.out.bx.five; obtain ⟨⟨k0, k1, k2, k3, k4⟩, j0, j1, j2, j3, j4⟩ := HKC.out _ HAG1.out.st.rd.but; clear m0 m1 m2 m3 m4; obtain ⟨m0, m1, m2, m3, m4⟩ := HK3.out _ HAG1.out.st.rd.but)
            | ((with_reducible refine (HNM.out _ _ HAG1.out.st.rd.bx).mono ?_); rintro r w3 ⟨rfl, hR⟩; have HAG3 := Lib.hid (HAG1.out.through hR hgr); clear hR; clear a0_ a1_ a2_ b0_ b1_ b2_ d0 d1 d2 d3 d4 k0 k1 k2 k3 k4 j0 j1 j2 j3 j4; obtain ⟨⟨a0_, a1_, a2_⟩, b0_, b1_, b2_⟩ := HAG3.out.ba.three; obtain ⟨⟨d0, d1, d2, d3, d4⟩, _⟩ := HAG3.out.bx.five; obtain ⟨⟨k0, k1, k2, k3, k4⟩, j0, j1, j2, j3, j4⟩ := HKC.out _ HAG3.out.st.rd.but; clear m0 m1 m2 m3 m4; obtain ⟨m0, m1, m2, m3, m4⟩ := HK3.out _ HAG3.out.st.rd.but)
            | ((show wpList _ _ _ (⟨some 56, _, _, _, _, _⟩ :: _) _ _); have HAG4 := Lib.hid (HAG3.out.store2 (.string ⟨x2.s.toArray⟩)); refine wpList_append_ow (o := ⟨some 56, _, _, _, _, _⟩) rfl 24 (.tmp 53) (.tmp 55) rfl encA Tryz.underlying_aggs Tryz.infoAgg rfl rfl (HAG4.out.st.own.ev (Ev.alloc _ _)) (some ⟨w3.heap.size, 0, none⟩) 1 1 [(x0.s, x1.s, x2.s)] rfl (by have := Sl.one (et := 63) encA (w3.setCell ⟨g8, 2, none⟩ (.string ⟨x2.s.toArray⟩)) (x0.s, x1.s, x2.s) #[.string ⟨x0.s.toArray⟩, .string ⟨x1.s.toArray⟩, .string ⟨x2.s.toArray⟩] rfl; simpa [World.setCell] using this) (by rw [HNL.out]; simp; omega) (by rw [HNL.out]; simp; omega) (Nat.le_trans HAG4.out.st.rd.but.size (Ev.alloc _ _).size) ?_; intro v2 w7 hA2; obtain ⟨A2, cap2, rfl, ST2⟩ := HAG4.out.st.next encA (RdOut.of HAG4.out.st.rd.bx (Ev.alloc _ _)) hgr hA2))
          go_roundw
          case rel => exact ⟨A2, cap2, k + 1, orE (orE E (nmErr x0.t)) (nmErr x2.t), rfl, by go_num, by omega, Lib.hid (by rw [HTK.out.2, HAE.out]; simp [orE_zero]), Lib.hid (by rw [HTK.out.1, HAO.out]; exact ST2)⟩
          case measure => simp [intOf]; omega
    · obtain rfl : k = n := by omega
      have HF : Hid ((l.take k).map (fun x => agOf x.t) = l.map (fun x => agOf x.t) ∧ E = orE e (firsts (l.flatMap fun x => agErrs x.t))) := Lib.hid (by
        have h1 := HEE.out
        rw [List.take_of_length_le (by rw [HL.out]; exact Nat.le_refl _)] at h1 ⊢
        exact ⟨rfl, by rw [h1, foldl_orE]⟩)
      go_wp2
      go_ret
      obtain ⟨x, hxv, hxl, hxs⟩ := HS.out.own.sle encA
      rw [hxv]
      exact ⟨x, rfl, by rw [hxl, HF.out.1], hxs, HF.out.2 ▸ HS.out.rd⟩
end Go.Proofs.YtojbahjebfcmgaaGreatDoor

namespace Go.Proofs.YtojbahjebfcmgaaGreatDoor
open Go.RowKit
set_option linter.unusedVariables false

theorem Tryz.infoPlan : (Tryz.prog.info? 27).map (fun i => (i.zero, i.size, i.bytes)) = some (some (.agg #[.int .i64 0, .string ⟨#[]⟩, .slice none 0 0, .slice none 0 0, .slice none 0 0, .slice none 0 0, .slice none 0 0, .slice none 0 0]), 8, 168) := by kernel_rfl
theorem Tryz.sizePlan : (Tryz.prog.info? 27).map (·.size) = some 8 := by kernel_rfl
/-- What plan gives. -/
def RdPl (gr : Nat) (e : Er) (t : T) (w : World) (r : Ending) (w' : World) : Prop := ∃ p : PM, r = .returned (.agg #[.int .i64 p.kind, .string ⟨p.name.toArray⟩, .slice p.ex.A p.ex.l.length p.ex.cap, .slice p.co.A p.co.l.length p.co.cap, .slice p.lf.A p.lf.l.length p.lf.cap, .slice p.rt.A p.rt.l.length p.rt.cap, .slice p.ag.A p.ag.l.length p.ag.cap, .slice p.A p.kids.length p.cap]) ∧ p.p = pPlan t ∧ Qx w.heap.size [] w' p ∧ RdOut gr (orE e (pErr t)) w w'
/-- In the midst of plans. -/
structure PlSt (w0 : World) (gr : Nat) (A : Option Addr) (n cap : Nat) (L : List PM) (e : Er) (w : World) : Prop where
  st : LsSt 27 8 pc w0 gr A n cap L e w
  lies : ∀ x ∈ L, Qx w0.heap.size (foot (.slice A n cap)) w x
theorem PlSt.start {w0 : World} {gr : Nat} {e : Er} (hB : Rb gr e w0) : PlSt w0 gr none 0 0 [] e w0 := ⟨LsSt.start _ _ _ hB, fun x hx => by cases hx⟩
theorem PlSt.next {w0 wr wp wq w2 : World} {gr n cap : Nat} {A : Option Addr} {L : List PM} {e e' : Er} {x : PM} {v2 : Value} (h : PlSt w0 gr A n cap L e wr) (hr : RdOut gr e' wr wq) (hg : gr < w0.heap.size) (hx : Qx wp.heap.size [] wq x) (hp : wr.heap.size ≤ wp.heap.size) (hA : AppSt 27 8 pc w0.heap.size wq (.slice A n cap) (L ++ [x]) v2 w2) :
    ∃ A2 cap2, v2 = .slice A2 (n + 1) cap2 ∧ PlSt w0 gr A2 (n + 1) cap2 (L ++ [x]) e' w2 := by
  obtain ⟨A2, cap2, hv, hS⟩ := h.st.next encP hr hg hA
  refine ⟨A2, cap2, hv, hS, fun y hy => ?_⟩
  subst hv
  have hy2 : Qx w0.heap.size (foot (.slice A n cap)) wq y := by
    rcases List.mem_append.1 hy with h1 | h1
    · refine ((h.lies y h1).less (K' := gr :: foot (.slice A n cap)) fun z hz => ?_).move (hr.but.wide fun z hz => .inl (by simp at hz; subst hz; exact List.mem_cons_self ..)) fun z hz => .inl (List.mem_cons_of_mem _ hz)
      rcases List.mem_cons.1 hz with rfl | hz
      · exact .inr (.inl hg)
      · exact .inl hz
    · simp at h1
      subst h1
      refine (hx.less fun k hk => .inr (.inl ?_)).low (Nat.le_trans h.st.rd.but.size hp)
      exact Nat.lt_of_lt_of_le (h.st.own.lt (mem_foot.1 hk)).2 hp
  refine hy2.move hA.2.1 fun z hz => ?_
  rcases hA.2.2 z (mem_foot.1 hz) with h2 | h2
  · exact .inl (mem_foot.2 h2)
  · exact .inr (.inr h2)

set_option maxRecDepth 100000 in
set_option maxHeartbeats 6400000 in
theorem rd_plans (gr : Nat) (e : Er) (l : List M) (A : Option Addr) (n cap b0 : Nat) (w : World) (hB : Rb gr e w) (h : Ms w A n cap l) (hr : Rng b0 [gr] w A) (hn : n ≤ 10000) (hp : ∀ x ∈ l, ∀ w1 e1, But [gr] w w1 → Rb gr e1 w1 → Calls Tryz.prog 27 #[.pointer (some ⟨gr, 0, none⟩), .agg #[.int .i64 x.kind, .string ⟨x.s.toArray⟩, .int .i64 x.n, .slice x.A x.kids.length x.cap, .int .i64 (x.pos : Int)]] w1 (RdPl gr e1 x.t w1)) :
    Calls Tryz.prog 55 #[.pointer (some ⟨gr, 0, none⟩), .slice A n cap] w fun r w' => ∃ x : Sle PM, r = .returned x.v ∧ x.l.map PM.p = l.map (fun x => pPlan x.t) ∧ SleAt 8 pc w.heap.size [] w' x ∧ (∀ k ∈ x.l, Qx w.heap.size [] w' k) ∧ RdOut gr (orE e (firsts (l.map fun x => pErr x.t))) w w' := by
  have hcl := h.le
  have hcm := h.max
  have HL := Lib.hid h.len
  have hgr := hB.lt
  have HS0 := Lib.hid (PlSt.start hB)
  have HMS := Lib.hid (fun w1 (hb : But [gr] w w1) => h.but hb fun ad e => (hr ad e).2.2)
  unfold RdPl at hp
  have HP := Lib.hid hp
  clear hB h hr hp
  go_enter Tryz.func55, Tryz.ntmps55
  go_wp2
  go_loopw [5, 10] (fun av iv wr => ∃ (A1 : Option Addr) (cap1 k : Nat) (E : Er) (L : List PM), av = .slice A1 k cap1 ∧ iv = .int .i64 (k : Int) ∧ k ≤ n ∧ Hid (L.map PM.p = (l.take k).map fun x => pPlan x.t) ∧ Hid (E = (((l.take k).map fun x => pErr x.t).foldl orE e)) ∧ Hid (PlSt w gr A1 k cap1 L E wr)) (fun _ iv _ => n - (intOf iv).toNat)
  case atStart => exact ⟨none, 0, 0, e, [], rfl, rfl, Nat.zero_le _, Lib.hid rfl, Lib.hid rfl, HS0⟩
  case round =>
    obtain ⟨A1, cap1, k, E, L, rfl, rfl, hk, HLL, HEE, HS⟩ := hrel
    by_cases hlt : k < n
    · obtain ⟨x, hx⟩ := (HMS.out w (But.refl _ _)).at hlt
      obtain ⟨b, off, rfl, hb, c0, c1, c2, c3, c4⟩ := Ms.cell (HMS.out wr HS.out.st.rd.but) hx
      unfold M.kv at c3
      have HTK : Hid ((l.take (k + 1)).map (fun x => pPlan x.t) = (l.take k).map (fun x => pPlan x.t) ++ [pPlan x.t] ∧ ((l.take (k + 1)).map fun x => pErr x.t).foldl orE e = orE E (pErr x.t)) := Lib.hid (by
        obtain ⟨hk2, e1⟩ := List.getElem?_eq_some_iff.1 hx
        rw [List.take_succ_eq_append_getElem hk2, e1, List.map_append, List.map_append, List.foldl_append, ← HEE.out]
        exact ⟨rfl, rfl⟩)
      have HN := Lib.hid (HP.out x (List.mem_of_getElem? hx) (wr.alloc (.cells #[.int .i64 x.kind, .string ⟨x.s.toArray⟩, .int .i64 x.n, .slice x.A x.kids.length x.cap, .int .i64 (x.pos : Int)] 67)) E (HS.out.st.rd.but.then (But.of_ev (Ev.alloc _ _))) (HS.out.st.rd.bx.ev (Ev.alloc _ _)))
      have HNL := Lib.hid HS.out.st.len
      have i1 : (0 : Int) ≤ (k : Int) := by omega
      have i2 : (k : Int) < (n : Int) := by omega
      clear hx
      go_wp2_with (first
        | ((with_reducible refine (HN.out).mono ?_); rintro r w1 ⟨p, rfl, hpt, hpl, hR⟩; have HPT := Lib.hid hpt; have HPL := Lib.hid (hpl.ev (Ev.alloc w1 (.cells #[.int .i64 p.kind, .string ⟨p.name.toArray⟩, .slice p.ex.A p.ex.l.length p.ex.cap, .slice p.co.A p.co.l.length p.co.cap, .slice p.lf.A p.lf.l.length p.lf.cap, .slice p.rt.A p.rt.l.length p.rt.cap, .slice p.ag.A p.ag.l.length p.ag.cap, .slice p.A p.kids.length p.cap] 27))); have HR := Lib.hid ((⟨hR.bx, (But.of_ev (Ev.alloc wr (.cells #[.int .i64 x.kind, .string ⟨x.s.toArray⟩, .int .i64 x.n, .slice x.A x.kids.length x.cap, .int .i64 (x.pos : Int)] 67))).then hR.but⟩ : RdOut gr _ wr w1).ev (Ev.alloc w1 (.cells #[.int .i64 p.kind, .string ⟨p.name.toArray⟩, .slice p.ex.A p.ex.l.length p.ex.cap, .slice p.co.A p.co.l.length p.co.cap, .slice p.lf.A p.lf.l.length p.lf.cap, .slice p.rt.A p.rt.l.length p.rt.cap, .slice p.ag.A p.ag.l.length p.ag.cap, .slice p.A p.kids.length p.cap] 27))); clear hR hpt hpl)
        | ((show wpList _ _ _ (⟨some 19, _, _, _, _, _⟩ :: _) _ _); refine wpList_append_ow (o := ⟨some 19, _, _, _, _, _⟩) rfl 25 (.tmp 14) (.tmp 18) rfl encP Tryz.underlying25 Tryz.infoPlan rfl rfl (HS.out.st.owq HR.out hgr) (some ⟨w1.heap.size, 0, none⟩) 1 1 [p] rfl (Sl.one (et := 27) encP w1 p _ rfl) (by rw [HNL.out]; simp; omega) (by rw [HNL.out]; simp; omega) (HS.out.st.size HR.out) ?_; intro v2 w2 hA2; obtain ⟨A2, cap2, rfl, ST2⟩ := HS.out.next HR.out hgr HPL.out (by simp) hA2))
      go_roundw
      case rel => exact ⟨A2, cap2, k + 1, _, _, rfl, by go_num, by omega, Lib.hid (by rw [List.map_append, HLL.out, HTK.out.1, List.map_cons, List.map_nil, HPT.out]), Lib.hid HTK.out.2.symm, Lib.hid ST2⟩
      case measure => simp [intOf]; omega
    · obtain rfl : k = n := by omega
      have HF : Hid ((l.take k).map (fun x => pPlan x.t) = l.map (fun x => pPlan x.t) ∧ E = orE e (firsts (l.map fun x => pErr x.t))) := Lib.hid (by
        have h1 := HEE.out
        rw [List.take_of_length_le (by rw [HL.out]; exact Nat.le_refl _)] at h1 ⊢
        exact ⟨rfl, by rw [h1, foldl_orE]⟩)
      go_wp2
      go_ret
      obtain ⟨x, hxv, hxl, hxs⟩ := HS.out.st.own.sle encP
      rw [hxv]
      exact ⟨x, rfl, by rw [hxl, HLL.out, HF.out.1], hxs, fun y hy => (HS.out.lies y (by rwa [hxl] at hy)).less (fun z hz => by cases hz), HF.out.2 ▸ HS.out.st.rd⟩

def ExF (base : Nat) (t : T) (v : Value) (w : World) : Prop := ∃ x : M, v = .agg #[.int .i64 x.kind, .string ⟨x.s.toArray⟩, .int .i64 x.n, .slice x.A x.kids.length x.cap] ∧ x.t = t ∧ Lx base [] w x
def XsF (base : Nat) (ts : List T) (v : Value) (w : World) : Prop := ∃ X : Sle M, v = .slice X.A X.l.length X.cap ∧ X.l.map M.t = ts ∧ SleAt 4 ec base [] w X ∧ ∀ x ∈ X.l, Lx base [] w x
def NsF (base : Nat) (ns : List By) (v : Value) (w : World) : Prop := ∃ X : Sle By, v = .slice X.A X.l.length X.cap ∧ X.l = ns ∧ SleAt 1 sc base [] w X
def AsF (base : Nat) (as_ : List Ag) (v : Value) (w : World) : Prop := ∃ X : Sle Ag, v = .slice X.A X.l.length X.cap ∧ X.l = as_ ∧ SleAt 3 ac base [] w X
def PsF (base : Nat) (ps : List Pl) (v : Value) (w : World) : Prop := ∃ X : Sle PM, v = .slice X.A X.l.length X.cap ∧ X.l.map PM.p = ps ∧ SleAt 8 pc base [] w X ∧ ∀ k ∈ X.l, Qx base [] w k
def PmF (base : Nat) (p : Pl) (v : Value) (w : World) : Prop := ∃ m : PM, v = .agg #[.int .i64 m.kind, .string ⟨m.name.toArray⟩, .slice m.ex.A m.ex.l.length m.ex.cap, .slice m.co.A m.co.l.length m.co.cap, .slice m.lf.A m.lf.l.length m.lf.cap, .slice m.rt.A m.rt.l.length m.rt.cap, .slice m.ag.A m.ag.l.length m.ag.cap, .slice m.A m.kids.length m.cap] ∧ m.p = p ∧ Qx base [] w m
theorem lx_old {base : Nat} {K : List Nat} {w w' : World} {x : M} (h : Lx base [] w x) (hb : But K w w') (hK : ∀ k ∈ K, k < base) : Lx base [] w' x := (h.less (K' := K) fun k hk => .inr (.inl (hK k hk))).move hb fun k hk => by cases hk
theorem qx_old {base : Nat} {K : List Nat} {w w' : World} {x : PM} (h : Qx base [] w x) (hb : But K w w') (hK : ∀ k ∈ K, k < base) : Qx base [] w' x := (h.less (K' := K) fun k hk => .inr (.inl (hK k hk))).move hb fun k hk => by cases hk
theorem sle_old {α : Type} {k : Nat} {enc : α → List Value} {base : Nat} {K : List Nat} {w w' : World} {x : Sle α} (h : SleAt k enc base [] w x) (hb : But K w w') (hK : ∀ k ∈ K, k < base) : SleAt k enc base [] w' x :=
  (h.move (K' := K) (But.refl _ _) fun k hk => .inr (.inl (hK k hk))).move hb fun k hk => by cases hk
theorem ExF.old {base : Nat} {t : T} {K : List Nat} (hK : ∀ k ∈ K, k < base) : ∀ v w w', But K w w' → ExF base t v w → ExF base t v w' := fun v w w' hb ⟨x, e, ht, hL⟩ => ⟨x, e, ht, lx_old hL hb hK⟩
theorem XsF.old {base : Nat} {ts : List T} {K : List Nat} (hK : ∀ k ∈ K, k < base) : ∀ v w w', But K w w' → XsF base ts v w → XsF base ts v w' := fun v w w' hb ⟨x, e, ht, hS, hL⟩ => ⟨x, e, ht, sle_old hS hb hK, fun y hy => lx_old (hL y hy) hb hK⟩
theorem NsF.old {base : Nat} {ns : List By} {K : List Nat} (hK : ∀ k ∈ K, k < base) : ∀ v w w', But K w w' → NsF base ns v w → NsF base ns v w' := fun v w w' hb ⟨x, e, ht, hS⟩ => ⟨x, e, ht, sle_old hS hb hK⟩
theorem AsF.old {base : Nat} {ns : List Ag} {K : List Nat} (hK : ∀ k ∈ K, k < base) : ∀ v w w', But K w w' → AsF base ns v w → AsF base ns v w' := fun v w w' hb ⟨x, e, ht, hS⟩ => ⟨x, e, ht, sle_old hS hb hK⟩
theorem PsF.old {base : Nat} {ps : List Pl} {K : List Nat} (hK : ∀ k ∈ K, k < base) : ∀ v w w', But K w w' → PsF base ps v w → PsF base ps v w' := fun v w w' hb ⟨x, e, ht, hS, hL⟩ => ⟨x, e, ht, sle_old hS hb hK, fun y hy => qx_old (hL y hy) hb hK⟩
theorem PmF.old {base : Nat} {p : Pl} {K : List Nat} (hK : ∀ k ∈ K, k < base) : ∀ v w w', But K w w' → PmF base p v w → PmF base p v w' := fun v w w' hb ⟨x, e, ht, hS⟩ => ⟨x, e, ht, qx_old hS hb hK⟩
theorem no_old {base : Nat} : ∀ k ∈ ([] : List Nat), k < base := fun k hk => by cases hk
theorem ExF.mono (base : Nat) (t : T) : Mono (ExF base t) := fun v w w' hE h => ExF.old no_old v w w' (But.of_ev hE) h
theorem XsF.mono (base : Nat) (ts : List T) : Mono (XsF base ts) := fun v w w' hE h => XsF.old no_old v w w' (But.of_ev hE) h
theorem NsF.mono (base : Nat) (ns : List By) : Mono (NsF base ns) := fun v w w' hE h => NsF.old no_old v w w' (But.of_ev hE) h
theorem AsF.mono (base : Nat) (ns : List Ag) : Mono (AsF base ns) := fun v w w' hE h => AsF.old no_old v w w' (But.of_ev hE) h
theorem PsF.mono (base : Nat) (ps : List Pl) : Mono (PsF base ps) := fun v w w' hE h => PsF.old no_old v w w' (But.of_ev hE) h
theorem PmF.mono (base : Nat) (p : Pl) : Mono (PmF base p) := fun v w w' hE h => PmF.old no_old v w w' (But.of_ev hE) h
/-- A plan's box is stored into. -/
def set8 (g : Nat) (v0 v1 v2 v3 v4 v5 v6 v7 : Value) (w : World) : World := (((set5 g v0 v1 v2 v3 v4 w).setCell ⟨g, 5, none⟩ v5).setCell ⟨g, 6, none⟩ v6).setCell ⟨g, 7, none⟩ v7
theorem set8_fold (g : Nat) (v0 v1 v2 v3 v4 v5 v6 v7 : Value) (w : World) : (((((((w.setCell ⟨g, 0, none⟩ v0).setCell ⟨g, 1, none⟩ v1).setCell ⟨g, 2, none⟩ v2).setCell ⟨g, 3, none⟩ v3).setCell ⟨g, 4, none⟩ v4).setCell ⟨g, 5, none⟩ v5).setCell ⟨g, 6, none⟩ v6).setCell ⟨g, 7, none⟩ v7 = set8 g v0 v1 v2 v3 v4 v5 v6 v7 w := rfl
theorem set8_but (g : Nat) (v0 v1 v2 v3 v4 v5 v6 v7 : Value) (w : World) : But [g] w (set8 g v0 v1 v2 v3 v4 v5 v6 v7 w) :=
  (((set5_but g v0 v1 v2 v3 v4 w).then (But.setCell ⟨g, 5, none⟩ _ (by simp))).then (But.setCell ⟨g, 6, none⟩ _ (by simp))).then (But.setCell ⟨g, 7, none⟩ _ (by simp))
theorem Bx.set8 {T : TypeId} {g : Nat} {w : World} {u0 u1 u2 u3 u4 u5 u6 u7 : Value} (h : Bx T g #[u0, u1, u2, u3, u4, u5, u6, u7] w) (v0 v1 v2 v3 v4 v5 v6 v7 : Value) : Bx T g #[v0, v1, v2, v3, v4, v5, v6, v7] (set8 g v0 v1 v2 v3 v4 v5 v6 v7 w) := by
  have := (((((((h.set 0 v0).set 1 v1).set 2 v2).set 3 v3).set 4 v4).set 5 v5).set 6 v6).set 7 v7
  rw [show (((((((((#[u0, u1, u2, u3, u4, u5, u6, u7] : Array Value).setIfInBounds 0 v0).setIfInBounds 1 v1).setIfInBounds 2 v2).setIfInBounds 3 v3).setIfInBounds 4 v4).setIfInBounds 5 v5).setIfInBounds 6 v6).setIfInBounds 7 v7) = #[v0, v1, v2, v3, v4, v5, v6, v7] by simp] at this
  exact this
theorem Bx.eight {T : TypeId} {g : Nat} {w : World} {v0 v1 v2 v3 v4 v5 v6 v7 : Value} (h : Bx T g #[v0, v1, v2, v3, v4, v5, v6, v7] w) :
    (w.cell? ⟨g, 0, none⟩ = some v0 ∧ w.cell? ⟨g, 1, none⟩ = some v1 ∧ w.cell? ⟨g, 2, none⟩ = some v2 ∧ w.cell? ⟨g, 3, none⟩ = some v3 ∧ w.cell? ⟨g, 4, none⟩ = some v4 ∧ w.cell? ⟨g, 5, none⟩ = some v5 ∧ w.cell? ⟨g, 6, none⟩ = some v6 ∧ w.cell? ⟨g, 7, none⟩ = some v7) ∧
    (w.frozen? ⟨g, 0, none⟩ = false ∧ w.frozen? ⟨g, 1, none⟩ = false ∧ w.frozen? ⟨g, 2, none⟩ = false ∧ w.frozen? ⟨g, 3, none⟩ = false ∧ w.frozen? ⟨g, 4, none⟩ = false ∧ w.frozen? ⟨g, 5, none⟩ = false ∧ w.frozen? ⟨g, 6, none⟩ = false ∧ w.frozen? ⟨g, 7, none⟩ = false) :=
  ⟨⟨h.cell 0, h.cell 1, h.cell 2, h.cell 3, h.cell 4, h.cell 5, h.cell 6, h.cell 7⟩, h.frozen 0, h.frozen 1, h.frozen 2, h.frozen 3, h.frozen 4, h.frozen 5, h.frozen 6, h.frozen 7⟩
theorem bx_twoP (w : World) (c0 c1 c2 c3 c4 : Value) : ∃ w0, (w.alloc (.cells #[c0, c1, c2, c3, c4] 67)).alloc (.cells #[.int .i64 0, .string ⟨#[]⟩, .slice none 0 0, .slice none 0 0, .slice none 0 0, .slice none 0 0, .slice none 0 0, .slice none 0 0] 27) = w0 ∧ Ev w w0 ∧ Bx 67 w.heap.size #[c0, c1, c2, c3, c4] w0 ∧ Bx 27 (w.heap.size + 1) #[.int .i64 0, .string ⟨#[]⟩, .slice none 0 0, .slice none 0 0, .slice none 0 0, .slice none 0 0, .slice none 0 0, .slice none 0 0] w0 ∧ w0.heap.size = w.heap.size + 2 := by
  have hB : Bx 27 (w.heap.size + 1) #[.int .i64 0, .string ⟨#[]⟩, .slice none 0 0, .slice none 0 0, .slice none 0 0, .slice none 0 0, .slice none 0 0, .slice none 0 0] ((w.alloc (.cells #[c0, c1, c2, c3, c4] 67)).alloc (.cells #[.int .i64 0, .string ⟨#[]⟩, .slice none 0 0, .slice none 0 0, .slice none 0 0, .slice none 0 0, .slice none 0 0, .slice none 0 0] 27)) := by
    have := Bx.new 27 #[.int .i64 0, .string ⟨#[]⟩, .slice none 0 0, .slice none 0 0, .slice none 0 0, .slice none 0 0, .slice none 0 0, .slice none 0 0] (w.alloc (.cells #[c0, c1, c2, c3, c4] 67))
    simpa using this
  exact ⟨_, rfl, (Ev.alloc w _).trans (Ev.alloc _ _), (Bx.new 67 #[c0, c1, c2, c3, c4] w).ev (Ev.alloc _ _), hB, by simp⟩
end Go.Proofs.YtojbahjebfcmgaaGreatDoor

namespace Go.Proofs.YtojbahjebfcmgaaGreatDoor
open Go.RowKit
set_option linter.unusedVariables false

/-- Trees come back in a slice of their own. -/
def AsOut (l : List T) (w : World) (e : Ending) (w' : World) : Prop := ∃ A n cap L, e = .returned (.slice A n cap) ∧ KdSt w A n cap L w' ∧ L.map M.t = l
theorem KdSt.start (w : World) : KdSt w none 0 0 [] w := ⟨Ow.nil_ w, rfl, (fun x hx => by cases hx), Ev.refl w⟩
theorem KdSt.on {w0 w w' : World} {A : Option Addr} {n cap : Nat} {L : List M} (h : KdSt w0 A n cap L w) (hE : Ev w w') : KdSt w0 A n cap L w' := ⟨h.own.ev hE, h.len, fun x hx => (h.lies x hx).ev hE, h.ev.trans hE⟩
set_option maxRecDepth 100000 in
set_option maxHeartbeats 4000000 in
theorem pl_open (A : Option Addr) (n cap : Nat) (w : World) :
    Calls Tryz.prog 112 #[.slice A n cap] w fun e w' => e = .returned (.agg #[.int .i64 1, .string ⟨#[]⟩, .int .i64 0, .slice A n cap, .int .i64 0]) ∧ Ev w w' := by
  go_enter Tryz.func112, Tryz.ntmps112
  go_wp2
  (try simp only [Exit.inBlock, Exit.then])
  refine bodyPost_ret (results_cell1 rfl _ _ _ _ _ rfl (Bx.new 67 #[.int .i64 1, .string ⟨#[]⟩, .int .i64 0, .slice A n cap, .int .i64 0] w) Tryz.underlying67 rfl Tryz.sizeTree) rfl ?_
  exact ⟨rfl, Ev.alloc w _⟩

set_option maxRecDepth 100000 in
set_option maxHeartbeats 8000000 in
theorem pl_atoms (l : List By) (A : Option Addr) (n cap : Nat) (w : World) (h : Ss w A n cap l) (hn : n ≤ 100000) :
    Calls Tryz.prog 109 #[.slice A n cap] w (AsOut (l.map pAtom) w) := by
  have hcl := h.le
  have hcm := h.max
  have HL := Lib.hid h.len
  have HMS := Lib.hid h
  have HS0 := Lib.hid (KdSt.start w)
  unfold AsOut
  clear h
  go_enter Tryz.func109, Tryz.ntmps109
  go_wp2
  go_loopw [3, 8] (fun av iv wr => ∃ (A1 : Option Addr) (cap1 k : Nat) (L : List M), av = .slice A1 k cap1 ∧ iv = .int .i64 (k : Int) ∧ k ≤ n ∧ Hid (L.map M.t = (l.take k).map pAtom) ∧ Hid (KdSt w A1 k cap1 L wr)) (fun _ iv _ => n - (intOf iv).toNat)
  case atStart => exact ⟨none, 0, 0, [], rfl, rfl, Nat.zero_le _, Lib.hid rfl, HS0⟩
  case round =>
    obtain ⟨A1, cap1, k, L, rfl, rfl, hk, HLT, HS⟩ := hrel
    by_cases hlt : k < n
    · obtain ⟨x, hx⟩ := HMS.out.at hlt
      obtain ⟨b, off, rfl, hb, hc⟩ := (HMS.out.ev HS.out.ev).rd (by omega)
      have c0 := hc k x hx 0 _ rfl
      simp only [Nat.mul_one, Nat.add_zero] at c0
      have HTK : Hid ((l.take (k + 1)).map pAtom = (l.take k).map pAtom ++ [pAtom x]) := Lib.hid (by
        obtain ⟨hk2, e1⟩ := List.getElem?_eq_some_iff.1 hx
        rw [List.take_succ_eq_append_getElem hk2, e1, List.map_append]
        rfl)
      have HLL := Lib.hid HS.out.len
      have i1 : (0 : Int) ≤ (k : Int) := by omega
      have i2 : (k : Int) < (n : Int) := by omega
      clear hx hc
      go_wp2_with (first
        | ((show wpList _ _ _ (⟨some 16, _, _, _, _, _⟩ :: _) _ _); refine wpList_append_ow (o := ⟨some 16, _, _, _, _, _⟩) rfl 65 (.tmp 12) (.tmp 15) rfl encM Tryz.underlying65 Tryz.infoTree rfl rfl (HS.out.own.ev (Ev.alloc wr _)) (some ⟨wr.heap.size, 0, none⟩) 1 1 [.mk 2 x 0 none 0 [] 0] rfl (Sl.one (et := 67) encM wr (.mk 2 x 0 none 0 [] 0) _ rfl) (by rw [HLL.out]; simp; omega) (by rw [HLL.out]; simp; omega) (HS.out.ev.trans (Ev.alloc wr _)).size ?_; intro v2 w2 hA2; obtain ⟨A2, cap2, rfl, ST2⟩ := HS.out.next (Ev.alloc wr _) (lies_leaf _ _ _ _ _ _ _) hA2))
      go_roundw
      case rel => exact ⟨A2, cap2, k + 1, _, rfl, by go_num, by omega, Lib.hid (by rw [HTK.out, List.map_append, HLT.out]; rfl), Lib.hid ST2⟩
      case measure => simp [intOf]; omega
    · obtain rfl : k = n := by omega
      have HF : Hid (L.map M.t = l.map pAtom) := Lib.hid (by
        have h1 := HLT.out
        rwa [List.take_of_length_le (by rw [HL.out]; exact Nat.le_refl _)] at h1)
      go_wp2
      go_ret
      exact ⟨A1, _, cap1, L, rfl, HS.out, HF.out⟩

theorem bx_agr (w : World) (c0 c1 c2 : Value) : ∃ w0, (w.alloc (.cells #[c0, c1, c2] 63)).alloc (.cells #[.int .i64 0, .string ⟨#[]⟩, .int .i64 0, .slice none 0 0, .int .i64 0] 67) = w0 ∧ Ev w w0 ∧ Bx 63 w.heap.size #[c0, c1, c2] w0 ∧ Bx 67 (w.heap.size + 1) #[.int .i64 0, .string ⟨#[]⟩, .int .i64 0, .slice none 0 0, .int .i64 0] w0 := by
  have hB : Bx 67 (w.heap.size + 1) #[.int .i64 0, .string ⟨#[]⟩, .int .i64 0, .slice none 0 0, .int .i64 0] ((w.alloc (.cells #[c0, c1, c2] 63)).alloc (.cells #[.int .i64 0, .string ⟨#[]⟩, .int .i64 0, .slice none 0 0, .int .i64 0] 67)) := by
    have := Bx.new 67 #[.int .i64 0, .string ⟨#[]⟩, .int .i64 0, .slice none 0 0, .int .i64 0] (w.alloc (.cells #[c0, c1, c2] 63))
    simpa using this
  exact ⟨_, rfl, (Ev.alloc w _).trans (Ev.alloc _ _), (Bx.new 63 #[c0, c1, c2] w).ev (Ev.alloc _ _), hB⟩
/-- A literal of texts lies. -/
theorem Ss.made (w : World) (l : List By) (cs : Array Value) (h : cs.toList = cl sc l) (hl : l.length ≤ 1000000) : Ss (w.alloc (.cells cs 9)) (some ⟨w.heap.size, 0, none⟩) l.length l.length l := by
  obtain ⟨A, cap, hv, hS, _⟩ := (Ow.made (et := 9) (base := w.heap.size) encS1 w l cs h (Nat.le_refl _) hl).form encS1
  injection hv with h1 _ h3
  subst h1; subst h3
  exact hS

set_option maxRecDepth 100000 in
set_option maxHeartbeats 8000000 in
theorem pl_aggTree (a : Ag) (w : World) : Calls Tryz.prog 113 #[.agg #[.string ⟨a.1.toArray⟩, .string ⟨a.2.1.toArray⟩, .string ⟨a.2.2.toArray⟩]] w (TrOut (agTree a) w) := by
  obtain ⟨s0, s1, s2⟩ := a
  obtain ⟨w0, hw0, hE0, hX, hB⟩ := bx_agr w (.string ⟨s0.toArray⟩) (.string ⟨s1.toArray⟩) (.string ⟨s2.toArray⟩)
  obtain ⟨⟨c0, c1, c2⟩, _⟩ := hX.three
  have HB := Lib.hid hB
  have HE := Lib.hid hE0
  have HOP := Lib.hid (fun A n cap w1 => pl_open A n cap w1)
  unfold TrOut
  clear hX hB hE0
  simp only
  by_cases hs : s2 = []
  · subst hs
    have HR : Hid (agTree (s0, s1, []) = pOpen ([s0, s1].map pAtom)) := Lib.hid rfl
    have hAT : Calls Tryz.prog 109 #[.slice (some ⟨w0.heap.size, 0, none⟩) 2 2] (w0.alloc (.cells #[.string ⟨s0.toArray⟩, .string ⟨s1.toArray⟩] 9)) (AsOut ([s0, s1].map pAtom) (w0.alloc (.cells #[.string ⟨s0.toArray⟩, .string ⟨s1.toArray⟩] 9))) := pl_atoms [s0, s1] _ _ _ _ (Ss.made w0 [s0, s1] _ rfl (by simp)) (by simp)
    unfold AsOut at hAT
    have HAT := Lib.hid hAT
    clear hAT
    rw [HR.out]
    go_enter Tryz.func113, Tryz.ntmps113
    go_wp2_with (first
      | ((with_reducible refine HAT.out.mono ?_); rintro e w1 ⟨A1, n1, cap1, L, rfl, hK, hLT⟩; have HK := Lib.hid hK; have HLT := Lib.hid hLT; clear hK hLT)
      | ((with_reducible refine (HOP.out _ _ _ _).mono ?_); rintro e w2 ⟨rfl, hE2⟩; have HE2 := Lib.hid hE2; have HBR := Lib.hid (HB.out.ev (((Ev.alloc w0 _).trans HK.out.ev).trans hE2)); obtain ⟨⟨d0, d1, d2, d3, d4⟩, r0, r1, r2, r3, r4⟩ := HBR.out.five; clear hE2))
    (try simp only [Exit.inBlock, Exit.then])
    rw [set5_fold]
    refine bodyPost_ret (results_cell1 rfl _ _ _ _ _ rfl (HBR.out.set5 _ _ _ _ _) Tryz.underlying67 rfl Tryz.sizeTree) rfl ?_
    obtain ⟨hlx, hnl⟩ := HK.out.done
    have hsz := HE.out.size
    have hsz1 := (Ev.alloc w0 (.cells #[.string ⟨s0.toArray⟩, .string ⟨s1.toArray⟩] 9)).size
    have hbl := HB.out.lt
    refine ⟨.mk 1 [] 0 A1 cap1 L 0, by simp only [M.kids, M.kind, M.s, M.n, M.A, M.cap, M.pos]; rw [← hnl]; rfl, by simp only [M.t, M.ts_map]; rw [HLT.out]; rfl, ?_, HE.out.trans ((((Ev.alloc w0 _).trans HK.out.ev).trans HE2.out)) |>.box (set5_but _ _ _ _ _ _ _) (by omega)⟩
    exact (((hlx.ev HE2.out).less (K' := [w.heap.size + 1]) fun k hk => by simp at hk; subst hk; exact .inr (.inl (by omega))).move (set5_but _ _ _ _ _ _ _) fun k hk => by cases hk).low (by omega)
  · have he : List.isEmpty s2 = false := by cases s2 with | nil => exact absurd rfl hs | cons _ _ => rfl
    have HR : Hid (agTree (s0, s1, s2) = pOpen ([s0, s1, s2].map pAtom)) := Lib.hid (by
      unfold agTree
      rw [show s2.isEmpty = false by cases s2 with | nil => exact absurd rfl hs | cons _ _ => rfl]
      rfl)
    have hAT : Calls Tryz.prog 109 #[.slice (some ⟨w0.heap.size, 0, none⟩) 3 3] (w0.alloc (.cells #[.string ⟨s0.toArray⟩, .string ⟨s1.toArray⟩, .string ⟨s2.toArray⟩] 9)) (AsOut ([s0, s1, s2].map pAtom) (w0.alloc (.cells #[.string ⟨s0.toArray⟩, .string ⟨s1.toArray⟩, .string ⟨s2.toArray⟩] 9))) := pl_atoms [s0, s1, s2] _ _ _ _ (Ss.made w0 [s0, s1, s2] _ rfl (by simp)) (by simp)
    unfold AsOut at hAT
    have HAT := Lib.hid hAT
    clear hAT
    rw [HR.out]
    go_enter Tryz.func113, Tryz.ntmps113
    go_wp2_with (first
      | ((with_reducible refine HAT.out.mono ?_); rintro e w1 ⟨A1, n1, cap1, L, rfl, hK, hLT⟩; have HK := Lib.hid hK; have HLT := Lib.hid hLT; clear hK hLT)
      | ((with_reducible refine (HOP.out _ _ _ _).mono ?_); rintro e w2 ⟨rfl, hE2⟩; have HE2 := Lib.hid hE2; have HBR := Lib.hid (HB.out.ev (((Ev.alloc w0 _).trans HK.out.ev).trans hE2)); obtain ⟨⟨d0, d1, d2, d3, d4⟩, r0, r1, r2, r3, r4⟩ := HBR.out.five; clear hE2))
    (try simp only [Exit.inBlock, Exit.then])
    rw [set5_fold]
    refine bodyPost_ret (results_cell1 rfl _ _ _ _ _ rfl (HBR.out.set5 _ _ _ _ _) Tryz.underlying67 rfl Tryz.sizeTree) rfl ?_
    obtain ⟨hlx, hnl⟩ := HK.out.done
    have hsz := HE.out.size
    have hsz1 := (Ev.alloc w0 (.cells #[.string ⟨s0.toArray⟩, .string ⟨s1.toArray⟩, .string ⟨s2.toArray⟩] 9)).size
    have hbl := HB.out.lt
    refine ⟨.mk 1 [] 0 A1 cap1 L 0, by simp only [M.kids, M.kind, M.s, M.n, M.A, M.cap, M.pos]; rw [← hnl]; rfl, by simp only [M.t, M.ts_map]; rw [HLT.out]; rfl, ?_, HE.out.trans ((((Ev.alloc w0 _).trans HK.out.ev).trans HE2.out)) |>.box (set5_but _ _ _ _ _ _ _) (by omega)⟩
    exact (((hlx.ev HE2.out).less (K' := [w.heap.size + 1]) fun k hk => by simp at hk; subst hk; exact .inr (.inl (by omega))).move (set5_but _ _ _ _ _ _ _) fun k hk => by cases hk).low (by omega)
end Go.Proofs.YtojbahjebfcmgaaGreatDoor

namespace Go.Proofs.YtojbahjebfcmgaaGreatDoor
open Go.RowKit
set_option linter.unusedVariables false

/-- Trees in a slice of its own. -/
structure OwT (b0 : Nat) (w : World) (A : Option Addr) (n cap : Nat) (L : List M) : Prop where
  own : Ow 67 5 mc b0 w (.slice A n cap) L
  len : L.length = n
  lies : ∀ x ∈ L, Lies b0 (foot (.slice A n cap)) w x
theorem KdSt.owt {w0 w : World} {b0 : Nat} {A : Option Addr} {n cap : Nat} {L : List M} (h : KdSt w0 A n cap L w) (hb : b0 ≤ w0.heap.size) : OwT b0 w A n cap L := ⟨h.own.low hb, h.len, fun x hx => (h.lies x hx).low hb⟩
theorem OwT.ev {b0 : Nat} {w w' : World} {A : Option Addr} {n cap : Nat} {L : List M} (h : OwT b0 w A n cap L) (hE : Ev w w') : OwT b0 w' A n cap L := ⟨h.own.ev hE, h.len, fun x hx => (h.lies x hx).ev hE⟩
/-- Older blocks turn. -/
theorem OwT.but {b0 : Nat} {K : List Nat} {w w' : World} {A : Option Addr} {n cap : Nat} {L : List M} (h : OwT b0 w A n cap L) (hb : But K w w') (hK : ∀ k ∈ K, k < b0) : OwT b0 w' A n cap L :=
  ⟨h.own.but hb fun g hg hm => by have := (h.own.lt hg).1; have := hK g hm; omega, h.len, fun x hx => ((h.lies x hx).less (K' := K ++ foot (.slice A n cap)) fun y hy => by
    rcases List.mem_append.1 hy with h1 | h1
    · exact .inr (.inl (hK y h1))
    · exact .inl h1).move (hb.wide fun y hy => .inl (List.mem_append_left _ hy)) fun y hy => .inl (List.mem_append_right _ hy)⟩
theorem OwT.done {b0 : Nat} {w : World} {n cap : Nat} {A : Option Addr} {L : List M} (h : OwT b0 w A n cap L) : Lies b0 [] w (.mk 1 [] 0 A cap L 0) ∧ n = L.length := by
  obtain ⟨A2, cap2, hv, hSl, hAd⟩ := h.own.form encM
  injection hv with h1 h2 h3
  subst h1; subst h3
  refine ⟨.mk hSl (fun ad e => ⟨(hAd ad e).2.1, (hAd ad e).2.2.1, by simp⟩) (fun k hk => (h.lies k hk).less (fun x hx => (by cases hx))), h2⟩
/-- A slice of its own with these trees. -/
def P0T (b0 : Nat) (Ts : List T) (v : Value) (w : World) : Prop := ∃ A n cap L, v = .slice A n cap ∧ OwT b0 w A n cap L ∧ L.map M.t = Ts
theorem P0T.ev {b0 : Nat} {Ts : List T} {v : Value} {w w' : World} (h : P0T b0 Ts v w) (hE : Ev w w') : P0T b0 Ts v w' := by
  obtain ⟨A, n, cap, L, e, h1, h2⟩ := h
  exact ⟨A, n, cap, L, e, h1.ev hE, h2⟩
theorem P0T.foot_lt {b0 : Nat} {Ts : List T} {v : Value} {w : World} (h : P0T b0 Ts v w) : ∀ k ∈ foot v, b0 ≤ k ∧ k < w.heap.size := by
  obtain ⟨A, n, cap, L, rfl, h1, h2⟩ := h
  exact fun k hk => h1.own.lt (mem_foot.1 hk)
theorem AsOut.p0 {Ts : List T} {w : World} {e : Ending} {w' : World} {b0 : Nat} (h : AsOut Ts w e w') (hb : b0 ≤ w.heap.size) : ∃ v, e = .returned v ∧ P0T b0 Ts v w' ∧ (∀ k ∈ foot v, w.heap.size ≤ k) ∧ Ev w w' := by
  obtain ⟨A, n, cap, L, rfl, h1, h2⟩ := h
  exact ⟨_, rfl, ⟨A, n, cap, L, rfl, h1.owt hb, h2⟩, fun k hk => (h1.own.lt (mem_foot.1 hk)).1, h1.ev⟩
/-- What avoids some blocks. -/
structure JF (F : List Nat → Value → World → Prop) : Prop where
  ev : ∀ K v u u', Ev u u' → F K v u → F K v u'
  new : ∀ K v u, (∀ k ∈ K, u.heap.size ≤ k) → F [] v u → F K v u
/-- A tree. -/
def FT (b0 : Nat) (t : T) (K : List Nat) (v : Value) (u : World) : Prop := ∃ x : M, v = .agg #[.int .i64 x.kind, .string ⟨x.s.toArray⟩, .int .i64 x.n, .slice x.A x.kids.length x.cap, .int .i64 (x.pos : Int)] ∧ x.t = t ∧ Lies b0 K u x
theorem FT.jf (b0 : Nat) (t : T) : JF (FT b0 t) := ⟨fun K v u u' hE ⟨x, e, h1, h2⟩ => ⟨x, e, h1, h2.ev hE⟩, fun K v u hK ⟨x, e, h1, h2⟩ => ⟨x, e, h1, h2.less fun k hk => .inr (.inr (hK k hk))⟩⟩
/-- A slice of trees, of another block. -/
def FM (b0 : Nat) (Ts : List T) (K : List Nat) (v : Value) (u : World) : Prop := ∃ A n cap L, v = .slice A n cap ∧ Ms u A n cap L ∧ L.map M.t = Ts ∧ ∀ x ∈ L, Lies b0 K u x
theorem FM.jf (b0 : Nat) (Ts : List T) : JF (FM b0 Ts) := ⟨fun K v u u' hE ⟨A, n, cap, L, e, h1, h2, h3⟩ => ⟨A, n, cap, L, e, h1.ev hE, h2, fun x hx => (h3 x hx).ev hE⟩, fun K v u hK ⟨A, n, cap, L, e, h1, h2, h3⟩ => ⟨A, n, cap, L, e, h1, h2, fun x hx => (h3 x hx).less fun k hk => .inr (.inr (hK k hk))⟩⟩
theorem P0T.fm {b0 : Nat} {Ts : List T} {v : Value} {w : World} {K : List Nat} (h : P0T b0 Ts v w) (hK : K = []) : FM b0 Ts K v w := by
  subst hK
  obtain ⟨A, n, cap, L, rfl, h1, h2⟩ := h
  obtain ⟨A2, cap2, hv, hSl, _⟩ := h1.own.form encM
  injection hv with e1 e2 e3
  subst e1; subst e3
  exact ⟨A, n, cap, L, rfl, by rw [e2]; exact hSl, h2, fun x hx => (h1.lies x hx).less fun y hy => (by cases hy)⟩
/-- Of the operations that are listed: i0's slice, and the others, which avoid it. -/
def GJ (i0 d0 : Nat) (P0 : Value → World → Prop) (fs : List (Nat × Nat × (List Nat → Value → World → Prop))) (L : Nat → Bool) (a : Act) (u : World) : Prop :=
  (L i0 = true → P0 (a.eval (.tmp d0)) u) ∧ ∀ f ∈ fs, L f.1 = true → f.2.2 (if L i0 = true then foot (a.eval (.tmp d0)) else []) (a.eval (.tmp f.2.1)) u
section
variable {i0 d0 : Nat} {P0 : Value → World → Prop} {fs : List (Nat × Nat × (List Nat → Value → World → Prop))}
theorem GJ.none {L : Nat → Bool} {a : Act} {u : World} (h : ∀ j, L j = false) : GJ i0 d0 P0 fs L a u := ⟨(fun e => by rw [h] at e; cases e), fun f _ e => by rw [h] at e; cases e⟩
theorem GJ.keep (hP : ∀ v u u', Ev u u' → P0 v u → P0 v u') (hJ : ∀ f ∈ fs, JF f.2.2) {L L' : Nat → Bool} {a a' : Act} {u u' : World} (hL0 : L' i0 = L i0) (hL : ∀ f ∈ fs, L' f.1 = L f.1) (ha0 : a'.eval (.tmp d0) = a.eval (.tmp d0)) (ha : ∀ f ∈ fs, a'.eval (.tmp f.2.1) = a.eval (.tmp f.2.1)) (hE : Ev u u') (h : GJ i0 d0 P0 fs L a u) : GJ i0 d0 P0 fs L' a' u' := by
  refine ⟨fun e => ?_, fun f hf e => ?_⟩
  · rw [ha0]
    exact hP _ _ _ hE (h.1 (hL0 ▸ e))
  · rw [ha0, ha f hf, hL0]
    exact (hJ f hf).ev _ _ _ _ hE (h.2 f hf (hL f hf ▸ e))
/-- i0 is listed. -/
theorem GJ.first (hJ : ∀ f ∈ fs, JF f.2.2) {L L' : Nat → Bool} {a : Act} {v : Value} {u u' : World} (h : GJ i0 d0 P0 fs L a u) (hu : L i0 = false) (hE : Ev u u') (hne : ∀ f ∈ fs, f.1 ≠ i0 ∧ f.2.1 ≠ d0) (hsz : d0 < a.tmps.size) (hP : P0 v u') (hnew : ∀ k ∈ foot v, u.heap.size ≤ k) (h1 : L' i0 = true) (h2 : ∀ j, j ≠ i0 → L' j = L j) : GJ i0 d0 P0 fs L' (a.put (some d0) v) u' := by
  refine ⟨fun _ => by rw [eval_put_same hsz]; exact hP, fun f hf e => ?_⟩
  obtain ⟨n1, n2⟩ := hne f hf
  rw [eval_put_same hsz, eval_put_other (fun e => n2 (Option.some.inj e).symm), h1, if_pos rfl]
  have h3 := h.2 f hf (h2 _ n1 ▸ e)
  rw [hu, if_neg Bool.false_ne_true] at h3
  exact (hJ f hf).ev _ _ _ _ hE ((hJ f hf).new _ _ _ hnew h3)
/-- Another is. -/
theorem GJ.other (hP : ∀ v u u', Ev u u' → P0 v u → P0 v u') (hJ : ∀ f ∈ fs, JF f.2.2) {L L' : Nat → Bool} {a : Act} {v : Value} {u u' : World} {i d : Nat} (h : GJ i0 d0 P0 fs L a u) (hE : Ev u u') (hne : i ≠ i0 ∧ d ≠ d0) (hd : ∀ f ∈ fs, f.1 ≠ i → f.2.1 ≠ d) (hsz : d < a.tmps.size) (hF : ∀ f ∈ fs, f.1 = i → f.2.1 = d ∧ f.2.2 (if L i0 = true then foot (a.eval (.tmp d0)) else []) v u') (h1 : L' i = true) (h2 : ∀ j, j ≠ i → L' j = L j) : GJ i0 d0 P0 fs L' (a.put (some d) v) u' := by
  have hL0 : L' i0 = L i0 := h2 _ fun e => hne.1 e.symm
  have ha0 : (a.put (some d) v).eval (.tmp d0) = a.eval (.tmp d0) := eval_put_other fun e => hne.2 (Option.some.inj e)
  refine ⟨fun e => ?_, fun f hf e => ?_⟩
  · rw [ha0]
    exact hP _ _ _ hE (h.1 (hL0 ▸ e))
  · rw [ha0, hL0]
    by_cases hi : f.1 = i
    · obtain ⟨e1, e2⟩ := hF f hf hi
      rw [e1, eval_put_same hsz]
      exact e2
    · rw [eval_put_other (fun e => hd f hf hi (Option.some.inj e).symm)]
      exact (hJ f hf).ev _ _ _ _ hE (h.2 f hf (h2 _ hi ▸ e))
/-- Where what is known stands when an operation of sp runs: the others' blocks are older. -/
theorem GJ.old {b0 : Nat} {Ts : List T} {L : Nat → Bool} {a : Act} {u : World} (h : GJ i0 d0 (P0T b0 Ts) fs L a u) : ∀ k ∈ (if L i0 = true then foot (a.eval (.tmp d0)) else []), k < u.heap.size := by
  intro k hk
  split at hk
  · rename_i e
    exact ((h.1 e).foot_lt k hk).2
  · cases hk
end
theorem run_append_op {P : Program} {ρ : Operand → Value} {o : Oper} {T : TypeId} {s x : Operand} {v y v' : Value} {w w' : World} (ho : o.op = .call { callee := .builtin .append, args := #[s, x], argTypes := #[T, T] }) (hs : ρ s = v) (hx : ρ x = y) (hr : (Builtin.append_ #[T, T] o.type #[v, y]).run P w = .ok v' w') : (execOp ρ o).run P w = .ok (.value v') w' := by
  unfold execOp
  simp only [ho, resolve, invoke, builtin, Sem.run_bind, Sem.run_pure, Result.andThen_ok, List.map_toArray, List.map_cons, List.map_nil, hs, hx, hr]
/-- An append of trees onto a slice of its own that they avoid. -/
theorem run_append_trees {ρ : Operand → Value} {o : Oper} {s x : Operand} {v y : Value} {w : World} {b0 : Nat} {Ts Us : List T} (ho : o.op = .call { callee := .builtin .append, args := #[s, x], argTypes := #[65, 65] }) (hs : ρ s = v) (hx : ρ x = y) (h1 : P0T b0 Ts v w) (h2 : FM b0 Us (foot v) y w) (hl : Ts.length + Us.length ≤ 1000000) (hb : b0 ≤ w.heap.size) :
    ∃ v' w', (execOp ρ o).run Tryz.prog w = .ok (.value v') w' ∧ P0T b0 (Ts ++ Us) v' w' ∧ But (foot v) w w' := by
  obtain ⟨A, n, cap, L, rfl, hO, hLt⟩ := h1
  obtain ⟨A2, n2, cap2, L2, rfl, hM, hL2t, hlies⟩ := h2
  have hLl : L.length = Ts.length := by rw [← hLt, List.length_map]
  have hL2l : L2.length = Us.length := by rw [← hL2t, List.length_map]
  obtain ⟨v', w', hr, h3, h4, h5, _⟩ := run_append_ow (P := Tryz.prog) encM 65 o.type Tryz.underlying65 Tryz.infoTree rfl hO.own A2 n2 cap2 L2 hM (by omega) (by omega) hb
  refine ⟨v', w', run_append_op ho hs hx hr, ?_, h4⟩
  obtain ⟨A3, cap3, rfl, hSl, hAd⟩ := h3.form encM
  refine ⟨A3, _, cap3, L ++ L2, rfl, ⟨h3, rfl, fun y hy => ?_⟩, by rw [List.map_append, hLt, hL2t]⟩
  have hy2 : Lies b0 (foot (.slice A n cap)) w y := by
    rcases List.mem_append.1 hy with h | h
    · exact hO.lies y h
    · exact hlies y h
  exact hy2.move h4 fun k hk => by
    rcases h5 k (mem_foot.1 hk) with h | h
    · exact .inl (mem_foot.2 h)
    · exact .inr (.inr h)
theorem run_build_tree {ρ : Operand → Value} {o : Oper} {x : Operand} (m : M) (ho : o.op = .buildSlice 65 1 #[(0, x)]) (h : ρ x = .agg #[.int .i64 m.kind, .string ⟨m.s.toArray⟩, .int .i64 m.n, .slice m.A m.kids.length m.cap, .int .i64 (m.pos : Int)]) (w : World) :
    (execOp ρ o).run Tryz.prog w = .ok (.value (.slice (some ⟨w.heap.size, 0, none⟩) 1 1)) (w.alloc (.cells #[.int .i64 m.kind, .string ⟨m.s.toArray⟩, .int .i64 m.n, .slice m.A m.kids.length m.cap, .int .i64 (m.pos : Int)] 67)) := by
  unfold execOp
  rw [ho]
  simp [h, go_sem]
theorem run_build_text {ρ : Operand → Value} {o : Oper} {x : Operand} (s : By) (ho : o.op = .buildSlice 23 1 #[(0, x)]) (h : ρ x = .string ⟨s.toArray⟩) (w : World) :
    (execOp ρ o).run Tryz.prog w = .ok (.value (.slice (some ⟨w.heap.size, 0, none⟩) 1 1)) (w.alloc (.cells #[.string ⟨s.toArray⟩] 9)) := by
  unfold execOp
  rw [ho]
  simp [h, go_sem]
/-- A tree in a slice of one. -/
theorem FT.slice {b0 : Nat} {t : T} {K : List Nat} {u : World} (x : M) (h : x.t = t) (hl : Lies b0 K u x) : FM b0 [t] K (.slice (some ⟨u.heap.size, 0, none⟩) 1 1) (u.alloc (.cells #[.int .i64 x.kind, .string ⟨x.s.toArray⟩, .int .i64 x.n, .slice x.A x.kids.length x.cap, .int .i64 (x.pos : Int)] 67)) :=
  ⟨_, 1, 1, [x], rfl, Sl.one (et := 67) encM u x _ rfl, by rw [List.map_cons, List.map_nil, h], fun y hy => by simp at hy; subst hy; exact hl.ev (Ev.alloc _ _)⟩
end Go.Proofs.YtojbahjebfcmgaaGreatDoor
