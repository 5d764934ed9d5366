/-
  Texts that belong together: The document's own Read in plain words; what is open in memory. Chapter 8 in plain words: expressions, their kinds and values; expressions in memory.
-/
import Derived.Test.YtiiogjpgeginlaaDoorZ13S7
import Derived.Test.YtiiogjpgeginlaaDoorZ12S7
import Derived.Test.YtiiogjpgeginlaaDoorZ0S7
import Derived.Test.YtiiogjpgeginlaaDoorZ6S7
namespace Go.Proofs.YtiiogjpgeginlaaDoor
open Go.RowKit
set_option linter.unusedVariables false

def rfStarter (c : UInt8) : Bool := c.toNat == 40 || c.toNat == 34 || c.toNat == 45 || sxLetter c || sxDigit c
def rfPop (os : List T) : List T := match os.getLast? with | none => os | some e => sxPut os.dropLast e
def rfWhole (os : List T) (pos : Nat) : Res := if 1 < os.length then (sxZero, 10, pos) else sxWhole os pos
/-- The document's own Read. -/
def rfGo : Nat → List T → By → Nat → Res
  | 0, _, _, _ => (sxZero, 12, 0)
  | _ + 1, os, [], pos => rfWhole os pos
  | f + 1, os, c :: q, pos =>
    if sxBlank c then rfGo f os q (pos + 1)
    else if c.toNat == 41 then (if os.length == 1 then (sxZero, 12, pos) else rfGo f (rfPop os) q (pos + 1))
    else if !rfStarter c then (sxZero, 12, pos)
    else if os.length == 1 && sxDone os then (sxZero, 11, pos)
    else if c.toNat == 40 then (if 12 < os.length then (sxZero, 14, pos) else rfGo f (os ++ [.mk 1 [] 0 [] pos]) q (pos + 1))
    else if (sxScan (c :: q)).why == 0 then rfGo f (sxPut os ((sxScan (c :: q)).tree pos)) ((c :: q).drop (sxScan (c :: q)).size) (pos + (sxScan (c :: q)).size)
    else (sxZero, (sxScan (c :: q)).why, pos + (sxScan (c :: q)).fault)
def rfRead (l : By) : Res := if 600 < l.length then (sxZero, 3, 0) else rfGo (l.length + 1) [sxZero] l 0

abbrev RT : TypeId := 31
theorem encM : Enc 5 mc := ⟨by omega, fun _ => rfl, fun x u hu => mlist_ones [x] u (by rw [mlist_one_]; exact hu)⟩
theorem Tryd.infoRTree : (Tryd.prog.info? 31).map (fun i => (i.zero, i.size, i.bytes)) = some (some (.agg #[.int .i64 0, .string ⟨#[]⟩, .int .i64 0, .slice none 0 0, .int .i64 0]), 5, 64) := by kernel_rfl

theorem Ow.low {α : Type} {k : Nat} {enc : α → List Value} {et : TypeId} {b0 b : Nat} {w : World} {v : Value} {Z : List α} (h : Ow et k enc b w v Z) (hb : b0 ≤ b) : Ow et k enc b0 w v Z :=
  ⟨h.1, h.2.imp id fun ⟨g, cap, cur, h1, h2, r⟩ => ⟨g, cap, cur, h1, Nat.le_trans hb h2, r⟩⟩
/-- In the midst of reading: the list of what is open lies in block g. -/
structure RfSt (w0 : World) (g q cap : Nat) (os : List M) (i : Nat) (w : World) : Prop where
  own : Ow 31 5 mc (w0.heap.size + 1) w (.slice (some ⟨g, 0, none⟩) (q + 1) cap) os
  len : os.length = q + 1
  lies : ∀ e ∈ os, Lies (w0.heap.size + 1) [g] w e
  ev : Ev w0 w
  box : Bx 31 w0.heap.size #[.int .i64 0, .string ⟨#[]⟩, .int .i64 0, .slice none 0 0, .int .i64 0] w
  few : os.length ≤ i + 1
  kids : ∀ e ∈ os, e.kids.length ≤ i
theorem RfSt.wider {w0 w : World} {g q cap i i' : Nat} {os : List M} (h : RfSt w0 g q cap os i w) (hi : i ≤ i') : RfSt w0 g q cap os i' w :=
  ⟨h.own, h.len, h.lies, h.ev, h.box, by have := h.few; omega, fun e he => by have := h.kids e he; omega⟩
theorem RfSt.evs {w0 w w' : World} {g q cap i : Nat} {os : List M} (h : RfSt w0 g q cap os i w) (hE : Ev w w') : RfSt w0 g q cap os i w' :=
  ⟨h.own.ev hE, h.len, fun e he => (h.lies e he).ev hE, h.ev.trans hE, h.box.ev hE, h.few, h.kids⟩
theorem RfSt.at {w0 w : World} {g q cap i : Nat} {os : List M} (h : RfSt w0 g q cap os i w) : w0.heap.size + 1 ≤ g ∧ g < w.heap.size ∧ q + 1 ≤ cap ∧ cap ≤ 9223372036854775807 ∧ (∀ i, w.frozen? ⟨g, i, none⟩ = false) ∧
    ∀ i x, os[i]? = some x → w.cell? ⟨g, i * 5, none⟩ = some (.int .i64 x.kind) ∧ w.cell? ⟨g, i * 5 + 1, none⟩ = some (.string ⟨x.s.toArray⟩) ∧ w.cell? ⟨g, i * 5 + 2, none⟩ = some (.int .i64 x.n) ∧ w.cell? ⟨g, i * 5 + 3, none⟩ = some x.kv ∧ w.cell? ⟨g, i * 5 + 4, none⟩ = some (.int .i64 (x.pos : Int)) := by
  obtain ⟨A, cap', hv, hS, hA⟩ := h.own.form encM
  injection hv with h1 h2 h3
  subst h1; subst h3
  obtain ⟨_, h4, h5, _, h6⟩ := hA _ rfl
  have hle := hS.le
  rw [h.len] at hle
  refine ⟨h4, h5, hle, hS.max, h6, fun i x hx => ?_⟩
  obtain ⟨b, off, e, _, hc⟩ := hS.rd (by rw [h.len]; omega)
  injection e with e
  injection e with e1 e2 _
  subst e1; subst e2
  have key : ∀ j u, (mc x)[j]? = some u → w.cell? ⟨g, i * 5 + j, none⟩ = some u := fun j u hu => by
    have := hc i x hx j u hu
    rwa [Nat.zero_add] at this
  exact ⟨key 0 _ rfl, key 1 _ rfl, key 2 _ rfl, key 3 _ rfl, key 4 _ rfl⟩
/-- A tree is put behind the Kids of the one at place r: its Kids in new memory, the place written. -/
theorem RfSt.graft {w0 w W : World} {g q cap i i' : Nat} {os1 os2 : List M} {e m : M} (h : RfSt w0 g q cap (os1 ++ e :: os2) i w) (hE : Ev w W) {v : Value} (hv : Ow 31 5 mc w.heap.size W v (e.kids ++ [m])) (hm : Lies (w0.heap.size + 1) [g] W m) (hi : i < i') :
    ∃ e' : M, e'.t = e.t.add m.t ∧ RfSt w0 g q cap (os1 ++ e' :: os2) i' (W.setCell ⟨g, os1.length * 5 + 3, none⟩ v) := by
  obtain ⟨A, cap', rfl, hS, hA⟩ := hv.form encM
  obtain ⟨e', he'⟩ : ∃ e', e' = M.mk e.kind e.s e.n A cap' (e.kids ++ [m]) e.pos := ⟨_, rfl⟩
  have hg := h.at
  have hkl : e'.kids = e.kids ++ [m] := by rw [he']; rfl
  have hB : But [g] W (W.setCell ⟨g, os1.length * 5 + 3, none⟩ (.slice A (e.kids ++ [m]).length cap')) := But.setCell _ _ (by simp)
  refine ⟨e', ?_, ?_, ?_, ?_, ?_, ?_, ?_, ?_⟩
  · rw [he', M.t_eq, T.add, M.t_eq e]
    simp [M.kind, M.s, M.n, M.kids, M.pos, T.kind, T.s, T.n, T.kids, T.pos]
  · have h1 := (h.own.ev hE).set encM (i := os1.length) (j := 3) (x := e) (x' := e') (u := .slice A (e.kids ++ [m]).length cap') (by simp) (by omega) (by rw [he']; simp [mc, M.kv, M.kind, M.s, M.n, M.A, M.kids, M.cap, M.pos])
    have h2 : (os1 ++ e :: os2).set os1.length e' = os1 ++ e' :: os2 := by simp
    rwa [h2] at h1
  · have := h.len
    simp at this ⊢
    omega
  · intro x hx
    have hold : ∀ y, y ∈ os1 ++ e :: os2 → Lies (w0.heap.size + 1) [g] (W.setCell ⟨g, os1.length * 5 + 3, none⟩ (.slice A (e.kids ++ [m]).length cap')) y := fun y hy => ((h.lies y hy).ev hE).move hB fun _ hx => .inl hx
    rcases List.mem_append.1 hx with h1 | h1
    · exact hold x (List.mem_append_left _ h1)
    · rcases List.mem_cons.1 h1 with rfl | h1
      · subst he'
        refine .mk (hS.but hB fun ad e0 => ?_) (fun ad e0 => ?_) fun y hy => ?_
        · have := (hA ad e0).2.1
          simp
          have := hg.2.1
          omega
        · obtain ⟨_, h3, h4, _⟩ := hA ad e0
          have := hE.size
          have := hg.1
          have := hg.2.1
          refine ⟨by omega, by simpa [World.setCell] using h4, ?_⟩
          simp
          omega
        · rcases List.mem_append.1 hy with h2 | h2
          · exact (hold e (by simp)).kid y h2
          · simp at h2
            subst h2
            exact hm.move hB fun _ hx => .inl hx
      · exact hold x (List.mem_append_right _ (List.mem_cons_of_mem _ h1))
  · exact (h.ev.trans hE).box hB (by have := hg.1; omega)
  · exact (h.box.ev hE).but hB (by simp; have := hg.1; omega)
  · have := h.few
    simp at this ⊢
    omega
  · intro x hx
    rcases List.mem_append.1 hx with h1 | h1
    · have := h.kids x (List.mem_append_left _ h1); omega
    · rcases List.mem_cons.1 h1 with rfl | h1
      · have := h.kids e (by simp)
        rw [hkl]
        simp
        omega
      · have := h.kids x (List.mem_append_right _ (List.mem_cons_of_mem _ h1)); omega
theorem RfSt.pop {w0 w : World} {g q cap i : Nat} {os : List M} {e : M} (h : RfSt w0 g (q + 1) cap (os ++ [e]) i w) : RfSt w0 g q cap os i w := by
  have hl : os.length = q + 1 := by have := h.len; simp at this; omega
  refine ⟨?_, hl, fun e he => h.lies e (List.mem_append_left _ he), h.ev, h.box, by have := h.few; simp at this; omega, fun e he => h.kids e (List.mem_append_left _ he)⟩
  have := h.own.to encM rfl (q + 1) (by simp; omega)
  rwa [← hl, List.take_left' rfl, hl] at this
theorem RfSt.push {w0 w W : World} {g q cap i i' : Nat} {os : List M} {m : M} (h : RfSt w0 g q cap os i w) (hE : Ev w W) {v : Value} (hv : Ow 31 5 mc w.heap.size W v (os ++ [m])) (hm : ∀ w K, Lies (w0.heap.size + 1) K w m) (hk : m.kids = []) (hi : i < i') :
    ∃ g' cap', v = .slice (some ⟨g', 0, none⟩) (q + 1 + 1) cap' ∧ RfSt w0 g' (q + 1) cap' (os ++ [m]) i' W := by
  have hl : (os ++ [m]).length = q + 1 + 1 := by have := h.len; simp; omega
  obtain ⟨A, cap', hvv, hS, hA⟩ := hv.form encM
  subst hvv
  rw [hl] at hv hS hA ⊢
  obtain ⟨b, off, rfl, _, _⟩ := hS.rd (by omega)
  obtain ⟨_, h3, h4, h5, _⟩ := hA _ rfl
  simp at h5
  subst h5
  have hg := h.at
  simp at h3
  have hb0 : w0.heap.size + 1 ≤ w.heap.size := by have := hg.1; have := hg.2.1; omega
  refine ⟨b, cap', rfl, ⟨hv.low hb0, hl, ?_, h.ev.trans hE, h.box.ev hE, by have := h.few; simp; omega, ?_⟩⟩
  · intro e he
    rcases List.mem_append.1 he with h1 | h1
    · exact (h.lies e h1).move (But.of_ev (K := [g]) hE) fun x hx => by
        simp at hx
        subst hx
        exact .inr (.inr h3)
    · simp at h1
      subst h1
      exact hm _ _
  · intro e he
    rcases List.mem_append.1 he with h1 | h1
    · have := h.kids e h1; omega
    · simp at h1
      subst h1
      rw [hk]; simp

theorem RfSt.init (w : World) : RfSt w (w.heap.size + 1) 0 1 [mzero] 0 ((w.alloc (.cells #[.int .i64 0, .string ⟨#[]⟩, .int .i64 0, .slice none 0 0, .int .i64 0] 31)).alloc (.cells #[.int .i64 0, .string ⟨#[]⟩, .int .i64 0, .slice none 0 0, .int .i64 0] 31)) := by
  have hE := Ev.alloc w (.cells #[.int .i64 0, .string ⟨#[]⟩, .int .i64 0, .slice none 0 0, .int .i64 0] 31)
  refine ⟨?_, rfl, fun e he => ?_, hE.trans (Ev.alloc _ _), (Bx.new _ _ w).ev (Ev.alloc _ _), by simp, fun e he => ?_⟩
  · have := Ow.made (et := 31) (base := w.heap.size + 1) encM (w.alloc (.cells #[.int .i64 0, .string ⟨#[]⟩, .int .i64 0, .slice none 0 0, .int .i64 0] 31)) [mzero] #[.int .i64 0, .string ⟨#[]⟩, .int .i64 0, .slice none 0 0, .int .i64 0] rfl (by simp) (by simp)
    simpa using this
  · simp at he
    subst he
    exact Lies.zero _ _ _
  · simp at he
    subst he
    simp [mzero, M.kids]
theorem rfPop_snoc (os : List T) (e t : T) : rfPop (os ++ [e] ++ [t]) = os ++ [e.add t] := by
  unfold rfPop
  rw [List.getLast?_append]
  simp only [List.getLast?_singleton, Option.some_or, List.dropLast_concat]
  exact sxPut_snoc _ _ _
theorem sxDone_map {os : List M} {e : M} : sxDone ((e :: os).map M.t) = decide (0 < e.kids.length) := by
  simp only [sxDone, List.map_cons, M.t_kids]
  cases e.kids <;> simp

/-- An empty literal in memory. -/
def Empty0 (et : TypeId) (b : Nat) (v : Value) (w : World) : Prop := ∃ g, v = .slice (some ⟨g, 0, none⟩) 0 0 ∧ w.heap[g]? = some (.cells #[] et (0, 0)) ∧ b ≤ g
theorem Empty0.mono {et : TypeId} {b : Nat} : Mono (Empty0 et b) := fun v w w' hE ⟨g, h1, h2, h3⟩ => ⟨g, h1, by rw [hE.block g (Array.getElem?_eq_some_iff.1 h2).1]; exact h2, h3⟩
theorem Empty0.new {et : TypeId} {b : Nat} {w : World} (h : b ≤ w.heap.size) : Empty0 et b (.slice (some ⟨w.heap.size, 0, none⟩) 0 0) (w.alloc (.cells #[] et)) := ⟨_, rfl, heap_alloc_new w _, h⟩
theorem Empty0.ow {α : Type} {k : Nat} {enc : α → List Value} {et : TypeId} {b : Nat} {v : Value} {w : World} (h : Empty0 et b v w) : Ow et k enc b w v ([] : List α) := by
  obtain ⟨g, rfl, hg, hb⟩ := h
  exact ⟨by simp [cl], .inr ⟨g, 0, #[], rfl, hb, hg, Nat.le_refl _, by decide, by simp, by simp [cl]⟩⟩
/-- append onto an empty literal: nothing that was there turns. -/
theorem run_append_ow0 {α : Type} {k : Nat} {enc : α → List Value} {et : TypeId} {b : Nat} {v : Value} {w : World} {P : Program} (E : Enc k enc) (T ty : TypeId) (ht : P.underlying T = some (.slice et)) {zero : Value} {bytes : Nat} (hi : (P.info? et).map (fun i => (i.zero, i.size, i.bytes)) = some (some zero, k, bytes)) (hz : zero.cells.size = k)
    (hv : Empty0 et b v w) (A : Option Addr) (m c : Nat) (l : List α) (hB : Sl k enc w A m c l) (hbytes : l.length * bytes ≤ 140737488355328) (hsm : l.length ≤ 1000000000) (hbase : b ≤ w.heap.size) :
    ∃ v' w', (Builtin.append_ #[T, T] ty #[v, .slice A m c]).run P w = .ok v' w' ∧ Ow et k enc b w' v' l ∧ Ev w w' := by
  obtain ⟨v', w', hr, h1, h2, h3, h4⟩ := run_append_ow (P := P) E T ty ht hi hz (hv.ow (k := k) (enc := enc)) A m c l hB (by simpa using hbytes) (by simpa using hsm) hbase
  rw [List.nil_append] at h1
  refine ⟨v', w', hr, h1, ?_⟩
  obtain ⟨g, rfl, hg, hbg⟩ := hv
  refine ⟨h2.os, h2.tape, h2.output, h2.size, fun j hj => ?_⟩
  by_cases hjg : j = g
  · subst hjg
    obtain ⟨i, hi0, hz', hsz, hby⟩ := info_parts hi
    have hl := hB.len
    cases A with
    | none =>
      obtain ⟨rfl, rfl⟩ := hB.nil rfl
      have hr2 := run_append_owned_none (P := P) (w := w) b T ty et i k ht hi0 _ _ _ (Empty0.ow (k := k) (enc := enc) ⟨j, rfl, hg, hbg⟩)
      rw [hr] at hr2
      simp only [Result.ok.injEq] at hr2
      rw [hr2.2]
    | some ad =>
      by_cases hm : m = 0
      · subst hm
        have hr2 := run_append_room (P := P) w T ty et i ht hi0 j 0 0 #[] hg ad 0 c [] (by simp) (by simp) (by simp) (by omega) (by simp)
        rw [hr] at hr2
        simp only [Result.ok.injEq] at hr2
        rw [hr2.2, setRow_heap w j #[] _ et (0, 0) hg, hg]
        simp
      · have hcells : ∀ j u, (cl enc l)[j]? = some u → w.cell? (ad.add j) = some u := by
          intro q u hu
          obtain ⟨i', j', x, rfl, hx, hxu⟩ := cl_back E l q u hu
          have hq := (List.getElem?_eq_some_iff.1 hx).1
          obtain ⟨b', off, e, _, hc⟩ := hB.rd (by omega)
          obtain rfl := Option.some.inj e
          have := hc i' x hx j' u hxu
          rw [Addr.add_lit]
          rwa [show off + i' * k + j' = off + (i' * k + j') by omega] at this
        have hr2 := run_append_grow (P := P) w T ty et i zero ht hi0 hz' ⟨j, 0, none⟩ 0 0 [] (by simp) (by simp) ad m c (cl enc l) (by rw [cl_length E, hl, hsz]) hcells (by omega) (by omega) (growslice_fits (by omega) (by rw [hby]; rw [hl] at hbytes; simpa using hbytes))
        rw [hr] at hr2
        simp only [Result.ok.injEq] at hr2
        rw [hr2.2]
        exact ((Ev.drew w).trans (Ev.alloc w.drew _)).block j hj
  · exact h2.block j hj (fun hm => hjg (by have := mem_foot.1 hm; simp [Value.ownBlock] at this; exact this.symm))

theorem wpList_append_ow0 {α : Type} {k : Nat} {enc : α → List Value} {et : TypeId} {base : Nat} {v : Value} {P : Program} {w : World} {ops : Array Oper} {rest : List Oper} {o : Oper} {a : Act} {Q : Exit → Act → World → Prop} (hgd : o.guard = none) (T : TypeId) (s x : Operand)
    (ho : o.op = .call { callee := .builtin .append, args := #[s, x], argTypes := #[T, T] }) (E : Enc k enc)
    (ht : P.underlying T = some (.slice et)) {zero : Value} {bytes : Nat} (hi : (P.info? et).map (fun i => (i.zero, i.size, i.bytes)) = some (some zero, k, bytes)) (hz : zero.cells.size = k)
    (hs : a.eval s = v) (hown : Empty0 et base v w) (A : Option Addr) (m c : Nat) (l : List α) (hx : a.eval x = .slice A m c) (hB : Sl k enc w A m c l)
    (hbytes : l.length * bytes ≤ 140737488355328) (hsm : l.length ≤ 1000000000) (hbase : base ≤ w.heap.size)
    (h : ∀ v' w', Ow et k enc base w' v' l → Ev w w' → wpList P ops Q rest (a.put o.dst v') w') : wpList P ops Q (o :: rest) a w := by
  refine wpList_plain hgd fun K hK => ?_
  obtain ⟨v', w', hr, h2, h3⟩ := run_append_ow0 (P := P) E T o.type ht hi hz hown A m c l hB hbytes hsm hbase
  unfold Oper.wp execOp
  simp only [ho, resolve, invoke, builtin, Sem.run_bind, Sem.run_pure, Result.andThen_ok, List.map_toArray, List.map_cons, List.map_nil, hs, hx, hr]
  exact hK _ _ (h v' w' h2 h3)
/-- Laws for drawn regions over trees of the document's. -/
theorem run_build_none {ρ : Operand → Value} {o : Oper} (ho : o.op = .buildSlice 29 0 #[]) (w : World) : (execOp ρ o).run Tryd.prog w = .ok (.value (.slice (some ⟨w.heap.size, 0, none⟩) 0 0)) (w.alloc (.cells #[] 31)) := by
  unfold execOp
  rw [ho]
  simp [go_sem]
theorem run_build_one {ρ : Operand → Value} {o : Oper} {x : Operand} (m : M) (ho : o.op = .buildSlice 29 1 #[(0, x)]) (h : ρ x = mv m) (w : World) :
    (execOp ρ o).run Tryd.prog w = .ok (.value (.slice (some ⟨w.heap.size, 0, none⟩) 1 1)) (w.alloc (.cells (mc m).toArray 31)) := by
  unfold mv M.kv at h
  unfold mc M.kv
  unfold execOp
  rw [ho]
  simp [h, go_sem]
theorem run_index_tree {ρ : Operand → Value} {o : Oper} {x y : Operand} {g n cap : Nat} (k : Nat) (ho : o.op = .indexAddr 29 x y) (hx : ρ x = .slice (some ⟨g, 0, none⟩) n cap) (hy : ρ y = .int .i64 (k : Int)) (hk : k < n) (w : World) :
    (execOp ρ o).run Tryd.prog w = .ok (.value (.pointer (some ⟨g, k * 5, none⟩))) w := by
  have h1 : (k : Int) < (n : Int) := by omega
  have h2 : (0 : Int) ≤ (k : Int) := by omega
  unfold execOp
  rw [ho]
  simp [hx, hy, go_sem, h1, h2]
theorem run_field_tree {ρ : Operand → Value} {o : Oper} {x : Operand} {g i : Nat} (ho : o.op = .fieldAddr 31 x 3) (hx : ρ x = .pointer (some ⟨g, i, none⟩)) (w : World) :
    (execOp ρ o).run Tryd.prog w = .ok (.value (.pointer (some ⟨g, i + 3, none⟩))) w := by
  unfold execOp
  rw [ho]
  simp [hx, go_sem]
theorem run_load_kids {ρ : Operand → Value} {o : Oper} {x : Operand} {a : Addr} {v : Value} {w : World} (ho : o.op = .load 29 x) (hx : ρ x = .pointer (some a)) (c0 : w.cell? a = some v) :
    (execOp ρ o).run Tryd.prog w = .ok (.value v) w := by
  unfold execOp
  rw [ho]
  simp [hx, go_sem, c0]
theorem run_load_tree {ρ : Operand → Value} {o : Oper} {x : Operand} {b off : Nat} {w : World} (m : M) (ho : o.op = .load 31 x) (hx : ρ x = .pointer (some ⟨b, off, none⟩)) (hc : ∀ j u, (mc m)[j]? = some u → w.cell? ⟨b, off + j, none⟩ = some u) :
    (execOp ρ o).run Tryd.prog w = .ok (.value (mv m)) w := by
  have c0 : w.cell? ⟨b, off, none⟩ = some (.int .i64 m.kind) := hc 0 _ rfl
  have c1 : w.cell? ⟨b, off + 1, none⟩ = some (.string ⟨m.s.toArray⟩) := hc 1 _ rfl
  have c2 : w.cell? ⟨b, off + 2, none⟩ = some (.int .i64 m.n) := hc 2 _ rfl
  have c3 : w.cell? ⟨b, off + 3, none⟩ = some m.kv := hc 3 _ rfl
  have c4 : w.cell? ⟨b, off + 4, none⟩ = some (.int .i64 (m.pos : Int)) := hc 4 _ rfl
  unfold mv
  unfold execOp
  rw [ho]
  simp [hx, go_sem, c0, c1, c2, c3, c4]
theorem run_append_at {P : Program} {a : Act} {o : Oper} {x y : Operand} {T : TypeId} {u v' : Value} {w w' : World} (ho : o.op = .call { callee := .builtin .append, args := #[x, y], argTypes := #[T, T] }) (hy : a.eval y = u)
    (hr : (Builtin.append_ #[T, T] o.type #[a.eval x, u]).run P w = .ok v' w') : (execOp a.eval o).run P w = .ok (.value v') w' := by
  unfold execOp
  simp only [ho, resolve, invoke, builtin, Sem.run_bind, Sem.run_pure, Result.andThen_ok, List.map_toArray, List.map_cons, List.map_nil, hy, hr]
end Go.Proofs.YtiiogjpgeginlaaDoor

namespace Go.Proofs.YtiiogjpgeginlaaDoor
open Go.RowKit
set_option linter.unusedVariables false

/-- The operations. -/
def bAdd : By := [97, 100, 100]
def bSub : By := [115, 117, 98]
def bMul : By := [109, 117, 108]
def bEq : By := [101, 113]
def bLt : By := [108, 116]
def bAnd : By := [97, 110, 100]
def bOr : By := [111, 114]
def bCat : By := [99, 97, 116]
def bNeg : By := [110, 101, 103]
def bNot : By := [110, 111, 116]
def bLen : By := [108, 101, 110]
def bIf : By := [105, 102]
def xTwo (s : By) : Bool := s == bAdd || s == bSub || s == bMul || s == bEq || s == bLt || s == bAnd || s == bOr || s == bCat
def xOne (s : By) : Bool := s == bNeg || s == bNot || s == bLen
def xTakes (s : By) : Nat := if xTwo s then 2 else if xOne s then 1 else if s == bIf then 3 else 0
def bstr (s : By) : ByteArray := ⟨s.toArray⟩
abbrev xName (s : By) : Bool := nameV (bstr s)
/-- P8.1: the expression of a tree, or why there is none, and where. An expression is a tree without places. -/
abbrev XRes := T × Int × Nat
def xBad (why : Int) (pos : Nat) : XRes := (sxZero, why, pos)
/-- The operands' results, one behind the other. -/
def xReads (s : By) (done : List T) : List XRes → XRes
  | [] => (.mk 4 s 0 done 0, 0, 0)
  | r :: l => if r.2.1 == 0 then xReads s (done ++ [r.1]) l else (sxZero, r.2.1, r.2.2)
mutual
def xRead : T → XRes
  | .mk k s n l p =>
    if k == 2 then (if xName s then (.mk 1 s 0 [] 0, 0, 0) else xBad 20 p)
    else if k == 3 then (.mk 2 [] n [] 0, 0, 0)
    else if k == 4 then (.mk 3 s 0 [] 0, 0, 0)
    else if k == 1 then
      (match l with
        | [] => xBad 12 p
        | h :: q => if h.kind == 2 && !(xTakes h.s == 0) then
            (if q.length == xTakes h.s then xReads h.s [] (xReadAll q) else xBad 23 p) else xBad 12 p)
    else xBad 12 p
def xReadAll : List T → List XRes
  | [] => []
  | t :: l => xRead t :: xReadAll l
end
/-- Is it none of what Read makes, whatever its Kids are? -/
def xForeign (e : T) : Bool :=
  if e.kind == 1 then !xName e.s || !(e.n == 0) || !e.kids.isEmpty
  else if e.kind == 2 then !e.s.isEmpty || !e.kids.isEmpty
  else if e.kind == 3 then !(e.n == 0) || !e.kids.isEmpty
  else if e.kind == 4 then xTakes e.s == 0 || !(e.n == 0) || !(e.kids.length == xTakes e.s)
  else true
mutual
def xRight : T → Bool
  | .mk k s n l p => !xForeign (.mk k s n l p) && xRights l
def xRights : List T → Bool
  | [] => true
  | t :: l => xRight t && xRights l
end
mutual
def T.size : T → Nat
  | .mk _ _ _ l _ => T.sizes l + 1
def T.sizes : List T → Nat
  | [] => 0
  | t :: l => t.size + T.sizes l
end
/-- P8.2. -/
def xAll (ks : List Int) (k : Int) : Bool := ks.all (· == k)
def xApplied (s : By) (ks : List Int) : Int × Int :=
  if s == bAdd || s == bSub || s == bMul || s == bNeg || s == bAnd || s == bOr || s == bNot then (if xAll ks 1 then (1, 0) else (0, 22))
  else if s == bEq || s == bLt then (if ks.getD 0 0 == ks.getD 1 0 then (1, 0) else (0, 22))
  else if s == bCat then (if xAll ks 2 then (2, 0) else (0, 22))
  else if s == bLen then (if xAll ks 2 then (1, 0) else (0, 22))
  else if s == bIf then (if ks.getD 0 0 == 1 && ks.getD 1 0 == ks.getD 2 0 then (ks.getD 1 0, 0) else (0, 22))
  else (0, 22)
/-- The results, one behind the other: the first error, or what they make. -/
def xKindsGo (s : By) (done : List Int) : List (Int × Int) → Int × Int
  | [] => xApplied s done
  | r :: l => if r.2 == 0 then xKindsGo s (done ++ [r.1]) l else (0, r.2)
mutual
def xKind (cols : List C) : T → Int × Int
  | .mk k s n l p =>
    if k == 1 then (match findC cols (bstr s) with | none => (0, 20) | some i => ((cols.getD i (⟨#[]⟩, 0)).2, 0))
    else if k == 2 then (1, 0)
    else if k == 3 then (2, 0)
    else xKindsGo s [] (xKinds cols l)
def xKinds (cols : List C) : List T → List (Int × Int)
  | [] => []
  | t :: l => xKind cols t :: xKinds cols l
end
def xType (cols : List C) (e : T) : Int × Int := if xRight e then xKind cols e else (0, 22)
/-- P8.3. -/
abbrev VRes := V × Int
def v0 : V := (0, 0, ⟨#[]⟩)
def vNum (n : Int) : V := (1, n, ⟨#[]⟩)
def vStr (s : ByteArray) : V := (2, 0, s)
def xTruth (b : Bool) : VRes := (vNum (if b then 1 else 0), 0)
def xFit (n : Int) : VRes := if -9223372036854775808 ≤ n ∧ n ≤ 9223372036854775807 then (vNum n, 0) else (v0, 26)
def xPerform (s : By) (a b : V) : VRes :=
  if s == bAdd then xFit (a.2.1 + b.2.1)
  else if s == bSub then xFit (a.2.1 - b.2.1)
  else if s == bMul then xFit (a.2.1 * b.2.1)
  else if s == bNeg then xFit (-a.2.1)
  else if s == bEq then xTruth (!lessVV a b && !lessVV b a)
  else if s == bLt then xTruth (lessVV a b)
  else if s == bAnd then xTruth (!(a.2.1 == 0) && !(b.2.1 == 0))
  else if s == bOr then xTruth (!(a.2.1 == 0) || !(b.2.1 == 0))
  else if s == bNot then xTruth (a.2.1 == 0)
  else if s == bCat then (if a.2.2.size + b.2.2.size ≤ 40 then (vStr (a.2.2 ++ b.2.2), 0) else (v0, 3))
  else if s == bLen then (vNum (a.2.2.size : Int), 0)
  else (v0, 22)
def xChoose : List VRes → VRes
  | a :: b :: c :: _ => if a.2 == 0 then (if a.1.2.1 == 0 then c else b) else (v0, a.2)
  | _ => (v0, 22)
def xEvalsGo (s : By) (done : List V) : List VRes → VRes
  | [] => xPerform s (done.getD 0 v0) (done.getD (done.length - 1) v0)
  | r :: l => if r.2 == 0 then xEvalsGo s (done ++ [r.1]) l else (v0, r.2)
mutual
def xEval (cols : List C) (r : List V) : T → VRes
  | .mk k s n l p =>
    if k == 1 then (match findC cols (bstr s) with | none => (v0, 0) | some i => (r.getD i v0, 0))
    else if k == 2 then (vNum n, 0)
    else if k == 3 then (vStr (bstr s), 0)
    else if s == bIf then xChoose (xEvals cols r l)
    else xEvalsGo s [] (xEvals cols r l)
def xEvals (cols : List C) (r : List V) : List T → List VRes
  | [] => []
  | t :: l => xEval cols r t :: xEvals cols r l
end
def xValue (cols : List C) (r : List V) (e : T) : VRes := if (xType cols e).2 == 0 && fitsL cols r then xEval cols r e else (v0, 22)

/-- An expression's cells; it in memory, all of it in blocks that are not of K. -/
def ec (m : M) : List Value := [.int .i64 m.kind, .string ⟨m.s.toArray⟩, .int .i64 m.n, m.kv]
def ev_ (m : M) : Value := .agg #[.int .i64 m.kind, .string ⟨m.s.toArray⟩, .int .i64 m.n, m.kv]
abbrev Es := Sl 4 ec
theorem encE : Enc 4 ec := ⟨by omega, fun _ => rfl, fun x u hu => by
  simp [ec, M.kv] at hu
  rcases hu with rfl | rfl | rfl | rfl <;> rfl⟩
inductive Lx (b0 : Nat) (K : List Nat) (w : World) : M → Prop
  | mk {kind : Int} {s : By} {n : Int} {A : Option Addr} {cap : Nat} {kids : List M} {pos : Nat} : Es w A kids.length cap kids → (∀ ad, A = some ad → b0 ≤ ad.block ∧ ad.block < w.heap.size ∧ ad.block ∉ K) → (∀ k ∈ kids, Lx b0 K w k) →
      Lx b0 K w (.mk kind s n A cap kids pos)
theorem Lx.es {b0 : Nat} {K : List Nat} {w : World} {m : M} (h : Lx b0 K w m) : Es w m.A m.kids.length m.cap m.kids := by
  cases h with
  | mk h1 h2 h3 => exact h1
theorem Lx.kid {b0 : Nat} {K : List Nat} {w : World} {m : M} (h : Lx b0 K w m) : ∀ k ∈ m.kids, Lx b0 K w k := by
  cases h with
  | mk h1 h2 h3 => exact h3
theorem Lx.move {b0 : Nat} {K K' : List Nat} {w w' : World} {m : M} (h : Lx b0 K w m) (hb : But K w w') (hs : ∀ x ∈ K', x ∈ K ∨ x < b0 ∨ w.heap.size ≤ x) : Lx b0 K' w' m := by
  induction h with
  | mk h1 h2 h3 ih =>
    refine .mk (h1.but hb fun ad e => (h2 ad e).2.2) (fun ad e => ⟨(h2 ad e).1, Nat.lt_of_lt_of_le (h2 ad e).2.1 hb.size, fun hm => ?_⟩) ih
    rcases hs _ hm with h4 | h4 | h4
    · exact (h2 ad e).2.2 h4
    · have := (h2 ad e).1; omega
    · have := (h2 ad e).2.1; omega
theorem Lx.ev {b0 : Nat} {K : List Nat} {w w' : World} {m : M} (h : Lx b0 K w m) (hE : Ev w w') : Lx b0 K w' m := h.move (But.of_ev hE) fun _ hx => .inl hx
theorem Lx.low {b0 b1 : Nat} {K : List Nat} {w : World} {m : M} (h : Lx b1 K w m) (hb : b0 ≤ b1) : Lx b0 K w m := by
  induction h with
  | mk h1 h2 h3 ih => exact .mk h1 (fun ad e => ⟨Nat.le_trans hb (h2 ad e).1, (h2 ad e).2⟩) ih
theorem Lx.less {b0 : Nat} {K K' : List Nat} {w : World} {m : M} (h : Lx b0 K w m) (hs : ∀ x ∈ K', x ∈ K ∨ x < b0 ∨ w.heap.size ≤ x) : Lx b0 K' w m := h.move (But.refl _ _) hs
theorem Lx.leaf {b0 : Nat} {K : List Nat} {w : World} {k : Int} {s : By} {n : Int} {p : Nat} : Lx b0 K w (.mk k s n none 0 [] p) := .mk (Sl.nil_ w) (fun _ h => by cases h) (fun _ h => by cases h)
/-- Expression i of a slice. -/
theorem Es.cell {w : World} {A : Option Addr} {n cap : Nat} {l : List M} (h : Es w A n cap l) {i : Nat} {x : M} (hx : l[i]? = some x) : ∃ b off, A = some ⟨b, off, none⟩ ∧ b < w.heap.size ∧
    w.cell? ⟨b, off + i * 4, none⟩ = some (.int .i64 x.kind) ∧ w.cell? ⟨b, off + i * 4 + 1, none⟩ = some (.string ⟨x.s.toArray⟩) ∧ w.cell? ⟨b, off + i * 4 + 2, none⟩ = some (.int .i64 x.n) ∧ w.cell? ⟨b, off + i * 4 + 3, none⟩ = some x.kv := by
  have hi := (List.getElem?_eq_some_iff.1 hx).1
  have hl := h.len
  obtain ⟨b, off, e, hlt, hc⟩ := h.rd (by omega)
  exact ⟨b, off, e, hlt, hc i x hx 0 _ rfl, hc i x hx 1 _ rfl, hc i x hx 2 _ rfl, hc i x hx 3 _ rfl⟩
-- How deep, how many parts.
mutual
def M.dep : M → Nat
  | .mk _ _ _ _ _ l _ => M.deps l + 1
def M.deps : List M → Nat
  | [] => 0
  | m :: l => max m.dep (M.deps l)
end
theorem M.dep_kid : ∀ (l : List M) (k : M), k ∈ l → k.dep ≤ M.deps l
  | [], k, h => by cases h
  | m :: l, k, h => by
    rcases List.mem_cons.1 h with rfl | h
    · simp [M.deps]; omega
    · have := M.dep_kid l k h
      simp [M.deps]; omega
theorem M.dep_eq (m : M) : m.dep = M.deps m.kids + 1 := by cases m; rfl
theorem M.kid_dep {m k : M} (h : k ∈ m.kids) : k.dep < m.dep := by
  have := M.dep_kid m.kids k h
  rw [M.dep_eq m]
  omega
theorem M.t_s (m : M) : m.t.s = m.s := by rw [M.t_eq]; rfl
theorem M.t_n (m : M) : m.t.n = m.n := by rw [M.t_eq]; rfl
theorem xReadAll_map : ∀ l : List T, xReadAll l = l.map xRead
  | [] => rfl
  | t :: l => by simp [xReadAll, xReadAll_map l]
theorem xRights_all : ∀ l : List T, xRights l = l.all xRight
  | [] => rfl
  | t :: l => by simp [xRights, xRights_all l]
theorem xKinds_map (cols : List C) : ∀ l : List T, xKinds cols l = l.map (xKind cols)
  | [] => rfl
  | t :: l => by simp [xKinds, xKinds_map cols l]
theorem xEvals_map (cols : List C) (r : List V) : ∀ l : List T, xEvals cols r l = l.map (xEval cols r)
  | [] => rfl
  | t :: l => by simp [xEvals, xEvals_map cols r l]
theorem T.sizes_sum : ∀ l : List T, T.sizes l = (l.map T.size).sum
  | [] => rfl
  | t :: l => by simp [T.sizes, T.sizes_sum l]
end Go.Proofs.YtiiogjpgeginlaaDoor
