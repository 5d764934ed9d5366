/-
  Texts that belong together: The law's own reading of a text: of. The law's own function out: a tree of the document as the program's. What is read from a short text is a small tree, all of whose parts are fair. What is evaluated keeps its Kind, or is refused; it hangs on the columns alone that are used; what is read of a text has short texts. Plain facts. Package expr: all parts of a tree; what is told of a tree that stands for no expression.
-/
import Derived.Test.YtnljagmpeifikaaDoorZ22B
import Derived.Test.YtnljagmpeifikaaDoorZ20B
import Derived.Test.YtnljagmpeifikaaDoorZ18B
namespace Go.Proofs.YtnljagmpeifikaaDoor
open Go.RowKit
set_option linter.unusedVariables false

/-- The expression of a text. -/
def xOf (s : By) : T := (xRead (rfRead s).1).1
/-- What comes back is an expression, in new memory. -/
def OfOut (t : T) (w : World) (e : Ending) (w' : World) : Prop := ∃ x : M, e = .returned (ev_ x) ∧ x.t = t ∧ Lx w.heap.size [] w' x ∧ Ev w w'

set_option maxRecDepth 100000 in
set_option maxHeartbeats 1600000 in
theorem law8_of (s : ByteArray) (w : World) (hs : s.size ≤ 100000) (hf : (rfRead s.data.toList).1.every fairB = true) (hz : (rfRead s.data.toList).1.size ≤ 100000) :
    Calls Tryd.prog 15 #[.string s] w (OfOut (xOf s.data.toList) w) := by
  have HR := Lib.hid (fun w1 => rf_read s w1 hs)
  have hx := (fun (m : M) w1 (hm : m.t = (rfRead s.data.toList).1) (hL : Lies w.heap.size [] w1 m) => rx_read m.dep m w.heap.size w1 (Nat.le_refl _) hL (hm ▸ hf) (hm ▸ hz))
  unfold mv M.kv at hx
  have HX := Lib.hid hx
  clear hx
  have hE0 := Ev.alloc w (.cells #[.int .i64 0, .string ⟨#[]⟩, .int .i64 0, .slice none 0 0] 30)
  have hB := Bx.new 30 #[.int .i64 0, .string ⟨#[]⟩, .int .i64 0, .slice none 0 0] w
  obtain ⟨w0, hw0⟩ : ∃ w0, w.alloc (.cells #[.int .i64 0, .string ⟨#[]⟩, .int .i64 0, .slice none 0 0] 30) = w0 := ⟨_, rfl⟩
  rw [hw0] at hE0 hB
  have HE := Lib.hid hE0
  have HB := Lib.hid hB
  have hlt := hB.lt
  clear hE0 hB hf hz
  go_enter Tryd.func15, Tryd.ntmps15
  go_wp2_with (first
    | ((with_reducible refine (HR.out _).mono ?_); rintro e w1 ⟨m, rfl, hmt, hml, hE1⟩; have HMT := Lib.hid hmt; have HML := Lib.hid (hml.low (by omega) : Lies w.heap.size [] w1 m); have HE1 := Lib.hid hE1; clear hmt hml)
    | ((with_reducible refine (HX.out m _ HMT.out (HML.out.ev (Ev.alloc w1 _))).mono ?_); rintro e w2 ⟨x, rfl, hxt, hxl, hE2⟩; have E2 := (HE.out.trans HE1.out).trans ((Ev.alloc w1 _).trans hE2); have B2 := HB.out.ev ((HE1.out.trans ((Ev.alloc w1 _).trans hE2)).trans (Ev.alloc w2 (.cells #[.int .i64 x.kind, .string ⟨x.s.toArray⟩, .int .i64 x.n, .slice x.A x.kids.length x.cap] 30))); obtain ⟨⟨c0, c1, c2, c3⟩, f0, f1, f2, f3⟩ := B2.four))
  have hsz : w.heap.size + 1 ≤ (w1.alloc (.cells #[.int .i64 m.kind, .string ⟨m.s.toArray⟩, .int .i64 m.n, .slice m.A m.kids.length m.cap, .int .i64 (m.pos : Int)] 24)).heap.size := by
    have h1 := HB.out.lt
    have h2 := HE1.out.size
    have h3 := (Ev.alloc w1 (.cells #[.int .i64 m.kind, .string ⟨m.s.toArray⟩, .int .i64 m.n, .slice m.A m.kids.length m.cap, .int .i64 (m.pos : Int)] 24)).size
    omega
  have HXL := Lib.hid ((hxl.low hsz).ev (Ev.alloc w2 (.cells #[.int .i64 x.kind, .string ⟨x.s.toArray⟩, .int .i64 x.n, .slice x.A x.kids.length x.cap] 30)))
  (try simp only [Exit.inBlock, Exit.then])
  rw [set4_fold]
  refine bodyPost_ret (results_cell1 rfl _ _ _ _ _ rfl (B2.set4 _ _ _ _) Tryd.underlying30 rfl Tryd.sizeExpr) rfl ?_
  refine ⟨x, rfl, by rw [hxt, HMT.out]; rfl, ?_, (E2.trans (Ev.alloc w2 _)).box (set4_but _ _ _ _ _ _) (Nat.le_refl _)⟩
  exact ((HXL.out.less (K' := [w.heap.size]) fun k hk => by simp at hk; exact .inr (.inl (by omega))).move (set4_but _ _ _ _ _ _) fun k hk => by cases hk).low (Nat.le_succ _)
end Go.Proofs.YtnljagmpeifikaaDoor

namespace Go.Proofs.YtnljagmpeifikaaDoor
open Go.RowKit
set_option linter.unusedVariables false

/-- A call of a Go function as one step of a region, the world may grow. -/
theorem step_callw {α : Type} {P : Program} {ops : Array Oper} {o : Oper} {a : Act} {w : World} {K : Act → World → Prop} {Q : Exit → Act → World → Prop} {E : Prop}
    (hg : o.guard = none) (f : FuncId) (xs : Array Operand) (ts : Array TypeId) (hop : o.op = .call { callee := .value (.func f), args := xs, argTypes := ts }) (hb : bodied P f = true) (args : Array Value) (ha : xs.map a.eval = args) {F : α → Value} {S : α → World → Prop}
    (hc : Calls P f args w fun e w' => ∃ x : α, e = .returned (F x) ∧ S x w') (hK : ∀ x w', S x w' → K (a.put o.dst (F x)) w') :
    if Region.wanted o (yielded ops a.tmps) = true then Oper.wp P o a w K Q else E := by
  rw [if_pos (wanted_plain hg)]
  unfold Oper.wp
  rw [run_call f xs ts hop hb w, ha]
  refine hc.mono ?_
  rintro e w' ⟨x, rfl, h⟩
  exact hK x w' h
theorem step_append_ow {α : Type} {k : Nat} {enc : α → List Value} {et : TypeId} {base : Nat} {v : Value} {Z : List α} {P : Program} {ops : Array Oper} {o : Oper} {a : Act} {w : World} {K : Act → World → Prop} {Q : Exit → Act → World → Prop} {E0 : Prop}
    (hg : o.guard = none) (T : TypeId) (s x : Operand) (hop : o.op = .call { callee := .builtin .append, args := #[s, x], argTypes := #[T, T] }) (E : Enc k enc)
    (ht : P.underlying T = some (.slice et)) {zero : Value} {bytes : Nat} (hi : (P.info? et).map (fun i => (i.zero, i.size, i.bytes)) = some (some zero, k, bytes)) (hz : zero.cells.size = k)
    (hs : a.eval s = v) (hown : Ow et k enc base w v Z) (A : Option Addr) (m c : Nat) (l : List α) (hx : a.eval x = .slice A m c) (hB : Sl k enc w A m c l)
    (hbytes : (Z.length + l.length) * bytes ≤ 140737488355328) (hsm : Z.length + l.length ≤ 1000000000) (hbase : base ≤ w.heap.size)
    (hK : ∀ v' w', AppSt et k enc base w v (Z ++ l) v' w' → K (a.put o.dst v') w') :
    if Region.wanted o (yielded ops a.tmps) = true then Oper.wp P o a w K Q else E0 := by
  rw [if_pos (wanted_plain hg)]
  obtain ⟨v', w', hr, h2, h3, h4, _⟩ := run_append_ow (P := P) E T o.type ht hi hz hown A m c l hB hbytes hsm hbase
  unfold Oper.wp execOp
  simp only [hop, resolve, invoke, builtin, Sem.run_bind, Sem.run_pure, Result.andThen_ok, List.map_toArray, List.map_cons, List.map_nil, hs, hx, hr]
  exact hK _ _ ⟨h2, h3, h4⟩

/-- A tree that is being made in box ge: its Kids so far. -/
structure TrSt (w1 : World) (ge : Nat) (m : M) (A : Option Addr) (n cap : Nat) (L : List M) (w : World) : Prop where
  box : Bx 36 ge #[.int .i64 m.kind, .string ⟨m.s.toArray⟩, .int .i64 m.n, .slice A n cap, .int .i64 (m.pos : Int)] w
  own : Ow 36 5 mc (ge + 1) w (.slice A n cap) L
  len : L.length = n
  lies : ∀ x ∈ L, Lies (ge + 1) (foot (.slice A n cap)) w x
  ev : Ev w1 w
  ge_ : w1.heap.size ≤ ge
theorem TrSt.init (w1 : World) (m : M) : TrSt w1 w1.heap.size m none 0 0 [] (w1.alloc (.cells #[.int .i64 m.kind, .string ⟨m.s.toArray⟩, .int .i64 m.n, .slice none 0 0, .int .i64 (m.pos : Int)] 36)) :=
  ⟨Bx.new _ _ w1, Ow.nil_ _, rfl, (fun x hx => by cases hx), Ev.alloc _ _, Nat.le_refl _⟩
theorem TrSt.next {w1 wr wq w2 : World} {ge n cap : Nat} {m : M} {A : Option Addr} {L : List M} {x : M} {v2 : Value} (h : TrSt w1 ge m A n cap L wr) (hE : Ev wr wq) (hx : Lies wr.heap.size [] wq x) (hA : AppSt 36 5 mc (ge + 1) wq (.slice A n cap) (L ++ [x]) v2 w2) :
    ∃ A2 cap2, v2 = .slice A2 (n + 1) cap2 ∧ TrSt w1 ge m A2 (n + 1) cap2 (L ++ [x]) (w2.setCell ⟨ge, 3, none⟩ v2) := by
  obtain ⟨ho, hb, hs⟩ := hA
  obtain ⟨A2, cap2, rfl, hSl, hAd⟩ := ho.form encM
  have hl : (L ++ [x]).length = n + 1 := by rw [List.length_append, h.len]; rfl
  rw [hl] at ho hs hSl hAd ⊢
  have hgl := h.box.lt
  have hK : ge ∉ foot (.slice A n cap) := fun hm => by have := (h.own.lt (mem_foot.1 hm)).1; omega
  have hK2 : ∀ g, (Value.slice A2 (n + 1) cap2).ownBlock = some g → ge + 1 ≤ g := fun g hg => (ho.lt hg).1
  have hB2 : Bx 36 ge #[.int .i64 m.kind, .string ⟨m.s.toArray⟩, .int .i64 m.n, .slice A n cap, .int .i64 (m.pos : Int)] w2 := (h.box.ev hE).but hb hK
  have hBS : But [ge] w2 (w2.setCell ⟨ge, 3, none⟩ (.slice A2 (n + 1) cap2)) := But.setCell _ _ (by simp)
  refine ⟨A2, cap2, rfl, ?_, ?_, hl, fun y hy => ?_, ?_, h.ge_⟩
  · have := hB2.set 3 (.slice A2 (n + 1) cap2)
    simpa using this
  · exact ho.but hBS fun g hg => by have := hK2 g hg; simp; omega
  · have hy2 : Lies (ge + 1) (foot (.slice A n cap)) wq y := by
      rcases List.mem_append.1 hy with h1 | h1
      · exact (h.lies y h1).ev hE
      · simp at h1
        subst h1
        refine (hx.less fun k hk => .inr (.inl ?_)).low (by omega)
        exact (h.own.lt (mem_foot.1 hk)).2
    have hy3 : Lies (ge + 1) (foot (.slice A2 (n + 1) cap2)) w2 y := hy2.move hb fun k hk => by
      rcases hs k (mem_foot.1 hk) with h1 | h1
      · exact .inl (mem_foot.2 h1)
      · exact .inr (.inr h1)
    have hy4 : Lies (ge + 1) (ge :: foot (.slice A2 (n + 1) cap2)) w2 y := hy3.less fun k hk => by
      rcases List.mem_cons.1 hk with rfl | h1
      · exact .inr (.inl (by omega))
      · exact .inl h1
    exact hy4.move (hBS.wide fun k hk => by simp at hk; subst hk; exact .inl (by simp)) fun k hk => .inl (List.mem_cons_of_mem _ hk)
  · have h1 : Ev w1 w2 := ((But.of_ev (h.ev.trans hE)).then hb).ev fun k hk => by have := (h.own.lt (mem_foot.1 hk)).1; have := h.ge_; omega
    exact h1.box hBS h.ge_
theorem TrSt.after {w1 wr wq w2 : World} {ge n cap : Nat} {m : M} {A : Option Addr} {L : List M} {L' : List M} {v2 : Value} (h : TrSt w1 ge m A n cap L wr) (hE : Ev wr wq) (hA : AppSt 36 5 mc (ge + 1) wq (.slice A n cap) L' v2 w2) :
    Bx 36 ge #[.int .i64 m.kind, .string ⟨m.s.toArray⟩, .int .i64 m.n, .slice A n cap, .int .i64 (m.pos : Int)] w2 :=
  (h.box.ev hE).but hA.2.1 fun hm => by have := (h.own.lt (mem_foot.1 hm)).1; omega
theorem TrSt.done {w1 w : World} {ge n cap : Nat} {m : M} {A : Option Addr} {L : List M} (h : TrSt w1 ge m A n cap L w) {b0 : Nat} (hb : b0 ≤ ge) : Lies b0 [] w (.mk m.kind m.s m.n A cap L m.pos) ∧ n = L.length := by
  obtain ⟨A2, cap2, hv, hSl, hAd⟩ := h.own.form encM
  injection hv with h1 h2 h3
  subst h1; subst h3
  refine ⟨.mk hSl (fun ad e => ⟨by have := (hAd ad e).2.1; omega, (hAd ad e).2.2.1, by simp⟩) fun k hk => ((h.lies k hk).less fun x hx => by cases hx).low (by omega), h2⟩
/-- What comes back: the same tree, in new memory. -/
def TrOut (t : T) (w : World) (e : Ending) (w' : World) : Prop := ∃ x : M, e = .returned (.agg #[.int .i64 x.kind, .string ⟨x.s.toArray⟩, .int .i64 x.n, .slice x.A x.kids.length x.cap, .int .i64 (x.pos : Int)]) ∧ x.t = t ∧ Lies w.heap.size [] w' x ∧ Ev w w'

set_option maxRecDepth 100000 in
set_option maxHeartbeats 8000000 in
theorem law8_out (N : Nat) : ∀ (m : M) (b0 : Nat) (w : World), m.dep ≤ N → Lies b0 [] w m → m.t.size ≤ 100000 → Calls Tryd.prog 7 #[mv m] w (TrOut m.t w) := by
  induction N with
  | zero =>
    intro m b0 w hd
    rw [M.dep_eq] at hd
    omega
  | succ N ih =>
    intro m b0 w hd hL hsz
    have hkl : m.kids.length ≤ 100000 := by
      have h1 := T.size_eq m.t
      have h2 := sum_len m.t.kids
      rw [M.t_kids, List.length_map] at h2
      rw [M.t_kids] at h1
      omega
    have HSZ := Lib.hid hsz
    have hms := hL.ms
    have HIH := Lib.hid ih
    have HL := Lib.hid hL
    have HD := Lib.hid hd
    obtain ⟨kn, hkn⟩ : ∃ kn, kn = m.kids.length := ⟨_, rfl⟩
    unfold mv M.kv
    rw [← hkn] at hms hkl ⊢
    have HKN := Lib.hid hkn
    generalize hmA : m.A = mA at *
    generalize hmc : m.cap = mcap at *
    have hcm := hms.max
    have hle := hms.le
    have HMS := Lib.hid hms
    have hE0 := (Ev.alloc w (.cells #[.int .i64 m.kind, .string ⟨m.s.toArray⟩, .int .i64 m.n, .slice mA kn mcap, .int .i64 (m.pos : Int)] 24)).trans (Ev.alloc _ (.cells #[.int .i64 0, .string ⟨#[]⟩, .int .i64 0, .slice none 0 0, .int .i64 0] 36))
    have hX := (Bx.new 24 #[.int .i64 m.kind, .string ⟨m.s.toArray⟩, .int .i64 m.n, .slice mA kn mcap, .int .i64 (m.pos : Int)] w).ev (Ev.alloc _ (.cells #[.int .i64 0, .string ⟨#[]⟩, .int .i64 0, .slice none 0 0, .int .i64 0] 36))
    have hB : Bx 36 (w.heap.size + 1) #[.int .i64 0, .string ⟨#[]⟩, .int .i64 0, .slice none 0 0, .int .i64 0] ((w.alloc (.cells #[.int .i64 m.kind, .string ⟨m.s.toArray⟩, .int .i64 m.n, .slice mA kn mcap, .int .i64 (m.pos : Int)] 24)).alloc (.cells #[.int .i64 0, .string ⟨#[]⟩, .int .i64 0, .slice none 0 0, .int .i64 0] 36)) := by
      have := Bx.new 36 #[.int .i64 0, .string ⟨#[]⟩, .int .i64 0, .slice none 0 0, .int .i64 0] (w.alloc (.cells #[.int .i64 m.kind, .string ⟨m.s.toArray⟩, .int .i64 m.n, .slice mA kn mcap, .int .i64 (m.pos : Int)] 24))
      simpa using this
    obtain ⟨w0, hw0⟩ : ∃ w0, (w.alloc (.cells #[.int .i64 m.kind, .string ⟨m.s.toArray⟩, .int .i64 m.n, .slice mA kn mcap, .int .i64 (m.pos : Int)] 24)).alloc (.cells #[.int .i64 0, .string ⟨#[]⟩, .int .i64 0, .slice none 0 0, .int .i64 0] 36) = w0 := ⟨_, rfl⟩
    rw [hw0] at hE0 hX hB
    have HE := Lib.hid hE0
    have HX := Lib.hid hX
    have HB := Lib.hid hB
    have hI := TrSt.init w0 m
    have HI0 := Lib.hid hI
    obtain ⟨⟨c0, c1, c2, c3, c4⟩, _⟩ := hX.five
    clear ih hL hd hkn hE0 hX hB hmA hmc hms hI hsz
    go_enter Tryd.func7, Tryd.ntmps7
    go_wp2
    go_loopw [4] (fun iv wr => ∃ (A : Option Addr) (n cap : Nat) (L : List M), iv = .int .i64 (n : Int) ∧ n ≤ kn ∧ Hid (TrSt w0 w0.heap.size m A n cap L wr) ∧ Hid (L.map M.t = (m.kids.take n).map M.t)) (fun iv _ => kn - (intOf iv).toNat)
    case atStart => exact ⟨none, 0, 0, [], rfl, Nat.zero_le _, HI0, Lib.hid (by simp)⟩
    case round =>
      obtain ⟨A, n, cap, L, rfl, hj, HS, HR⟩ := hrel
      have HEW := Lib.hid (HE.out.trans HS.out.ev)
      have HEW0 := Lib.hid HS.out.ev
      obtain ⟨⟨c0, c1, c2, c3, c4⟩, _⟩ := (HX.out.ev HEW0.out).five
      obtain ⟨⟨b0_, b1_, b2_, b3_, b4_⟩, g0_, g1_, g2_, g3_, g4_⟩ := (HB.out.ev HEW0.out).five
      obtain ⟨⟨d0, d1, d2, d3, d4⟩, r0, r1, r2, r3, r4⟩ := HS.out.box.five
      by_cases hlt : n < kn
      · obtain ⟨x, hx⟩ : ∃ x, m.kids[n]? = some x := ⟨_, List.getElem?_eq_getElem (by have := HKN.out; omega)⟩
        obtain ⟨b, off, rfl, _, x0, x1, x2, x3, x4⟩ := Ms.cell (HMS.out.ev HEW.out) hx
        have hxk := List.mem_of_getElem? hx
        have hxs : x.t.size ≤ 100000 := by
          have h5 := T.size_eq m.t
          rw [M.t_kids, List.map_map] at h5
          have h6 := mem_le_sum (List.mem_map.2 ⟨x, hxk, rfl⟩ : x.t.size ∈ m.kids.map (T.size ∘ M.t))
          have := HSZ.out
          omega
        have HI := fun w1 (hE : Ev w w1) => HIH.out x b0 w1 (by have := M.kid_dep hxk; have := HD.out; omega) ((HL.out.kid x hxk).ev hE) hxs
        have HTK : Hid ((m.kids.take (n + 1)).map M.t = (m.kids.take n).map M.t ++ [x.t]) := Lib.hid (by
          obtain ⟨hk2, e⟩ := List.getElem?_eq_some_iff.1 hx
          rw [List.take_succ_eq_append_getElem hk2, e, List.map_append]
          rfl)
        unfold mv M.kv TrOut at HI
        unfold M.kv at x3
        have HI := Lib.hid HI
        have hnb : n ≤ 200000 := by omega
        have HLL := Lib.hid HS.out.len
        have i2 : (n : Int) < (kn : Int) := by omega
        have i3 : (0 : Int) ≤ (n : Int) := by omega
        have HGL := Lib.hid HS.out.box.lt
        clear hx hxk hxs
        go_wp2
        go_region_law (first
          | (refine step_callw rfl 7 #[.tmp 27] #[24] rfl (by kernel_rfl) _ (by simp only [List.map_toArray, List.map_cons, List.map_nil]; rfl) (HI.out _ (HEW.out.trans (Ev.drew wr))) ?_; rintro x' w1 ⟨hxt, hxl, hE1⟩; dsimp only; have HXT := Lib.hid hxt; have HXL := Lib.hid hxl; have E1 := Lib.hid ((Ev.drew wr).trans hE1); obtain ⟨⟨d0', d1', d2', d3', d4'⟩, r0', r1', r2', r3', r4'⟩ := (HS.out.box.ev E1.out).five; obtain ⟨⟨e0', e1', e2', e3', e4'⟩, s0', s1', s2', s3', s4'⟩ := (HS.out.box.ev (E1.out.trans (Ev.alloc w1 (.cells #[.int .i64 x'.kind, .string ⟨x'.s.toArray⟩, .int .i64 x'.n, .slice x'.A x'.kids.length x'.cap, .int .i64 (x'.pos : Int)] 36)))).five; clear hxt hxl)
          | (refine step_append_ow rfl 34 (.tmp 22) (.tmp 29) rfl encM Tryd.underlying34 Tryd.infoTree rfl rfl (HS.out.own.ev (E1.out.trans (Ev.alloc w1 _))) (some ⟨w1.heap.size, 0, none⟩) 1 1 [x'] rfl (Sl.one (et := 36) encM w1 x' _ rfl) (by rw [HLL.out]; simp; omega) (by rw [HLL.out]; simp; omega) (by have h7 := HGL.out; have h8 := (E1.out.trans (Ev.alloc w1 (.cells #[.int .i64 x'.kind, .string ⟨x'.s.toArray⟩, .int .i64 x'.n, .slice x'.A x'.kids.length x'.cap, .int .i64 (x'.pos : Int)] 36))).size; omega) ?_; intro v2 w2 hA2; obtain ⟨⟨d0, d1, d2, d3, d4⟩, r0, r1, r2, r3, r4⟩ := (HS.out.after (E1.out.trans (Ev.alloc w1 _)) hA2).five; obtain ⟨A2, cap2, rfl, ST2⟩ := HS.out.next (E1.out.trans (Ev.alloc w1 _)) (HXL.out.ev (Ev.alloc w1 _)) hA2))
        all_goals (
          go_wp2
          go_roundw
          case rel => exact ⟨A2, n + 1, cap2, L ++ [x'], by go_num, by omega, Lib.hid ST2, Lib.hid (by rw [HTK.out, List.map_append, HR.out, List.map_cons, List.map_nil, HXT.out])⟩
          case measure => simp [intOf]; omega)
      · have hjk : n = kn := by omega
        have i2 : ¬ ((n : Int) < (kn : Int)) := by omega
        obtain ⟨hlx, hnl⟩ := HS.out.done (b0 := w.heap.size) HE.out.size
        have hlg := (HS.out.done (b0 := w0.heap.size) (Nat.le_refl _)).1
        have hgew : w.heap.size + 1 < w0.heap.size := HB.out.lt
        have HLXG := Lib.hid (hlg.less (K' := [w.heap.size + 1]) fun k hk => by simp at hk; subst hk; exact .inr (.inl (by omega)))
        clear hlg
        have HNL := Lib.hid hnl
        have HT : Hid (M.t (.mk m.kind m.s m.n A cap L m.pos) = m.t) := Lib.hid (by
          have h5 := HR.out
          rw [hjk, HKN.out, List.take_length] at h5
          simp only [M.t, M.ts_map]
          rw [h5, ← M.t_eq])
        clear hjk hlx hnl
        go_wp2
        (try simp only [Exit.inBlock, Exit.then])
        rw [set5_fold]
        refine bodyPost_ret (results_cell1 rfl _ _ _ _ _ rfl ((HB.out.ev HEW0.out).set5 _ _ _ _ _) Tryd.underlying36 rfl Tryd.sizeTree) rfl ?_
        refine ⟨.mk m.kind m.s m.n A cap L m.pos, by simp only [M.kids, M.kind, M.s, M.n, M.A, M.cap, M.pos]; rw [← HNL.out], HT.out, ?_, HEW.out.box (set5_but _ _ _ _ _ _ _) (by omega)⟩
        exact (HLXG.out.move (set5_but _ _ _ _ _ _ _) fun k hk => by cases hk).low (by omega)
end Go.Proofs.YtnljagmpeifikaaDoor

namespace Go.Proofs.YtnljagmpeifikaaDoor
open Go.RowKit
set_option linter.unusedVariables false

theorem sxText_s : ∀ (N : Nat) (r b : By) (i : Nat), r.length ≤ N → (sxTextGo b r i).s.length ≤ 40
  | 0, [], b, i, _ => by simp [sxTextGo, sxWrong]
  | N + 1, [], b, i, _ => by simp [sxTextGo, sxWrong]
  | 0, c :: q, b, i, h => by simp at h
  | N + 1, c :: q, b, i, h => by
    have hq : q.length ≤ N := by simpa using h
    unfold sxTextGo
    split
    · exact sxText_s N q _ _ hq
    · split
      · cases q with
        | nil => simp [sxWrong]
        | cons x q1 =>
          simp only []
          cases sxHex x with
          | none => simp [sxWrong]
          | some a =>
            cases q1 with
            | nil => simp [sxWrong]
            | cons y q2 =>
              simp only []
              cases sxHex y with
              | none => simp [sxWrong]
              | some k => exact sxText_s N q2 _ _ (by simp at hq; omega)
      · split
        · split
          · simp [sxWrong]
          · rename_i h; simp; omega
        · simp [sxWrong]
theorem sxNum_n (plus : Bool) (d : By) (hd : ∀ c ∈ d, sxDigit c = true) : i64R (sxNum plus d).n ∧ (sxNum plus d).s = [] := by
  unfold sxNum
  cases hb : sxBelow d 0 with
  | none => exact ⟨(show i64R 0 by decide), rfl⟩
  | some n =>
    have hr := sxBelow_range d hd 0 n (by omega) (by omega) hb
    simp only []
    split
    · exact ⟨(show i64R 0 by decide), rfl⟩
    · rename_i h1
      cases plus
      · simp only [Bool.false_eq_true, if_false]
        exact ⟨⟨hr.1, by omega⟩, by simp⟩
      · simp at h1
        simp only [if_true]
        exact ⟨⟨by omega, by have := h1.2; omega⟩, by simp⟩
theorem sxScan_sn (c : UInt8) (q : By) : (sxScan (c :: q)).s.length ≤ q.length + 41 ∧ i64R (sxScan (c :: q)).n := by
  simp only [sxScan]
  split
  · exact ⟨by simp, by decide⟩
  split
  · exact ⟨by simp, by decide⟩
  split
  · have := sxText_s q.length q [] 1 (Nat.le_refl _)
    rw [sxText_n q.length q [] 1 (Nat.le_refl _)]
    exact ⟨by omega, by decide⟩
  split
  · simp only [sxNumber]
    split
    · obtain ⟨h1, h2⟩ := sxNum_n false (sxDigits q) (sxDigits_all q)
      exact ⟨by rw [h2]; simp, h1⟩
    · obtain ⟨h1, h2⟩ := sxNum_n true (sxDigits (c :: q)) (sxDigits_all (c :: q))
      exact ⟨by rw [h2]; simp, h1⟩
  split
  · exact ⟨by simp only [List.length_take, List.length_cons]; omega, by show i64R 0; decide⟩
  · exact ⟨by simp [sxWrong], by show i64R 0; decide⟩
theorem T.add_size (e t : T) : (e.add t).size = e.size + t.size := by
  rw [T.size_eq, T.size_eq e]
  show ((e.kids ++ [t]).map T.size).sum + 1 = _
  rw [List.map_append, List.sum_append]
  simp
  omega
theorem T.add_fair (e t : T) : (e.add t).every fairB = (e.every fairB && t.every fairB) := by
  rw [T.every_eq, T.every_eq fairB e]
  show (fairB e && (e.kids ++ [t]).all (T.every fairB)) = _
  rw [List.all_append, Bool.and_assoc]
  simp
theorem put_sum : ∀ (os : List T) (t : T), ((sxPut os t).map T.size).sum ≤ (os.map T.size).sum + t.size
  | [], t => by simp [sxPut]
  | [e], t => by simp [sxPut, T.add_size]
  | e :: e' :: os, t => by
    have := put_sum (e' :: os) t
    simp only [sxPut, List.map_cons, List.sum_cons] at this ⊢
    omega
theorem put_fair : ∀ (os : List T) (t : T), os.all (T.every fairB) = true → t.every fairB = true → (sxPut os t).all (T.every fairB) = true
  | [], t, _, _ => rfl
  | [e], t, h, ht => by
    simp only [List.all_cons, List.all_nil, Bool.and_true] at h
    simp [sxPut, T.add_fair, h, ht]
  | e :: e' :: os, t, h, ht => by
    rw [List.all_cons, Bool.and_eq_true] at h
    have := put_fair (e' :: os) t h.2 ht
    simp only [sxPut, List.all_cons, h.1, Bool.true_and] at this ⊢
    exact this
theorem pop_sum (os : List T) : ((rfPop os).map T.size).sum ≤ (os.map T.size).sum := by
  unfold rfPop
  cases h : os.getLast? with
  | none => exact Nat.le_refl _
  | some e =>
    have h1 := put_sum os.dropLast e
    have h2 : os = os.dropLast ++ [e] := by rw [List.getLast?_eq_some_iff] at h; obtain ⟨l, rfl⟩ := h; simp
    have h3 : (os.map T.size).sum = (os.dropLast.map T.size).sum + e.size := by
      conv => lhs; rw [h2]
      rw [List.map_append, List.sum_append]
      simp
    simp only []
    omega
theorem pop_fair (os : List T) (h : os.all (T.every fairB) = true) : (rfPop os).all (T.every fairB) = true := by
  unfold rfPop
  cases hl : os.getLast? with
  | none => exact h
  | some e =>
    rw [List.getLast?_eq_some_iff] at hl
    obtain ⟨l, rfl⟩ := hl
    rw [List.all_append, Bool.and_eq_true] at h
    simp only [List.dropLast_concat]
    exact put_fair _ _ h.1 (by simpa using h.2)
def SmallT (N : Nat) (t : T) : Prop := t.every fairB = true ∧ t.size ≤ N
theorem small_zero {N : Nat} (h : 1 ≤ N) : SmallT N sxZero := ⟨by decide +kernel, h⟩
theorem whole_small {N : Nat} (hN : 1 ≤ N) : ∀ (os : List T) (pos : Nat), os.all (T.every fairB) = true → (os.map T.size).sum ≤ N → SmallT N (sxWhole os pos).1
  | [], _, _, _ => small_zero hN
  | e :: os, pos, h, hs => by
    unfold sxWhole
    cases hk : e.kids with
    | nil => simp only [hk]; exact small_zero hN
    | cons t l =>
      simp only [hk]
      rw [List.all_cons, Bool.and_eq_true, T.every_eq, Bool.and_eq_true, hk, List.all_cons, Bool.and_eq_true] at h
      refine ⟨h.1.2.1, ?_⟩
      have := T.size_eq e
      rw [hk] at this
      simp only [List.map_cons, List.sum_cons] at this hs
      omega
theorem rfGo_small (N : Nat) (hN : 1 ≤ N) (hN2 : N ≤ 1000) : ∀ (f : Nat) (os : List T) (r : By) (pos : Nat), os.all (T.every fairB) = true → (os.map T.size).sum ≤ pos + 1 → pos + r.length + 1 ≤ N → SmallT N (rfGo f os r pos).1
  | 0, _, _, _, _, _, _ => small_zero hN
  | f + 1, os, [], pos, h, hs, hp => by
    unfold rfGo rfWhole
    split
    · exact small_zero hN
    · exact whole_small hN _ _ h (by simp at hp; omega)
  | f + 1, os, c :: q, pos, h, hs, hp => by
    simp only [List.length_cons] at hp
    unfold rfGo
    split
    · exact rfGo_small N hN hN2 f _ _ _ h (by omega) (by omega)
    split
    · split
      · exact small_zero hN
      · exact rfGo_small N hN hN2 f _ _ _ (pop_fair _ h) (by have := pop_sum os; omega) (by omega)
    split
    · exact small_zero hN
    split
    · exact small_zero hN
    split
    · split
      · exact small_zero hN
      · refine rfGo_small N hN hN2 f _ _ _ ?_ ?_ (by omega)
        · rw [List.all_append, h]
          rfl
        · rw [List.map_append, List.sum_append]
          simp [T.size, T.sizes]
          omega
    split
    · rename_i hw
      have hok := (sxScan_ok c q).good (by simpa using hw)
      have hsn := sxScan_sn c q
      generalize sxScan (c :: q) = x at *
      have ht : (x.tree pos).every fairB = true ∧ (x.tree pos).size = 1 := by
        refine ⟨?_, rfl⟩
        simp only [Tk.tree, T.every, T.everys, Bool.and_true, fairB, T.n, T.s, Bool.and_eq_true]
        exact ⟨decide_eq_true hsn.2, decide_eq_true (by omega)⟩
      refine rfGo_small N hN hN2 f _ _ _ (put_fair _ _ h ht.1) ?_ ?_
      · have h1 := put_sum os (x.tree pos)
        have h2 := hok.1
        rw [ht.2] at h1
        omega
      · rw [List.length_drop]
        have := hok.2.1
        simp only [List.length_cons] at this ⊢
        omega
    · exact small_zero hN
/-- Whatever the text: what is read is small and fair. -/
theorem rf_small (l : By) : SmallT 601 (rfRead l).1 := by
  unfold rfRead
  split
  · exact small_zero (by omega)
  · exact rfGo_small 601 (by omega) (by omega) _ _ _ _ (by decide +kernel) (by decide +kernel) (by omega)
end Go.Proofs.YtnljagmpeifikaaDoor

namespace Go.Proofs.YtnljagmpeifikaaDoor
open Go.RowKit
set_option linter.unusedVariables false

theorem T.add_every {p : T → Bool} (hp : ∀ e t, p (T.add e t) = p e) (e t : T) : (e.add t).every p = (e.every p && t.every p) := by
  rw [T.every_eq, T.every_eq p e, hp]
  show (p e && (e.kids ++ [t]).all (T.every p)) = _
  rw [List.all_append, Bool.and_assoc]
  simp
theorem put_every {p : T → Bool} (hp : ∀ e t, p (T.add e t) = p e) : ∀ (os : List T) (t : T), os.all (T.every p) = true → t.every p = true → (sxPut os t).all (T.every p) = true
  | [], t, _, _ => rfl
  | [e], t, h, ht => by
    simp only [List.all_cons, List.all_nil, Bool.and_true] at h
    simp [sxPut, T.add_every hp, h, ht]
  | e :: e' :: os, t, h, ht => by
    rw [List.all_cons, Bool.and_eq_true] at h
    have := put_every hp (e' :: os) t h.2 ht
    simp only [sxPut, List.all_cons, h.1, Bool.true_and] at this ⊢
    exact this
theorem pop_every {p : T → Bool} (hp : ∀ e t, p (T.add e t) = p e) (os : List T) (h : os.all (T.every p) = true) : (rfPop os).all (T.every p) = true := by
  unfold rfPop
  cases hl : os.getLast? with
  | none => exact h
  | some e =>
    rw [List.getLast?_eq_some_iff] at hl
    obtain ⟨l, rfl⟩ := hl
    rw [List.all_append, Bool.and_eq_true] at h
    simp only [List.dropLast_concat]
    exact put_every hp _ _ h.1 (by simpa using h.2)
theorem whole_every {p : T → Bool} (hz : sxZero.every p = true) : ∀ (os : List T) (pos : Nat), os.all (T.every p) = true → (sxWhole os pos).1.every p = true
  | [], _, _ => hz
  | e :: os, pos, h => by
    unfold sxWhole
    cases hk : e.kids with
    | nil => simp only [hk]; exact hz
    | cons t l =>
      simp only [hk]
      rw [List.all_cons, Bool.and_eq_true, T.every_eq, Bool.and_eq_true, hk, List.all_cons, Bool.and_eq_true] at h
      exact h.1.2.1
theorem rfGo_every {p : T → Bool} (hp : ∀ e t, p (T.add e t) = p e) (hz : sxZero.every p = true) (ho : ∀ pos, p (.mk 1 [] 0 [] pos) = true) (ht : ∀ c q pos, p ((sxScan (c :: q)).tree pos) = true) :
    ∀ (f : Nat) (os : List T) (r : By) (pos : Nat), os.all (T.every p) = true → (rfGo f os r pos).1.every p = true
  | 0, _, _, _, _ => hz
  | f + 1, os, [], pos, h => by
    unfold rfGo rfWhole
    split
    · exact hz
    · exact whole_every hz _ _ h
  | f + 1, os, c :: q, pos, h => by
    unfold rfGo
    split
    · exact rfGo_every hp hz ho ht f _ _ _ h
    split
    · split
      · exact hz
      · exact rfGo_every hp hz ho ht f _ _ _ (pop_every hp _ h)
    split
    · exact hz
    split
    · exact hz
    split
    · split
      · exact hz
      · refine rfGo_every hp hz ho ht f _ _ _ ?_
        rw [List.all_append, h]
        simp [T.every, T.everys, ho]
    split
    · refine rfGo_every hp hz ho ht f _ _ _ (put_every hp _ _ h ?_)
      have := ht c q pos
      generalize sxScan (c :: q) = x at *
      simp only [Tk.tree, T.every, T.everys, Bool.and_true] at this ⊢
      exact this
    · exact hz
theorem rfRead_every {p : T → Bool} (hp : ∀ e t, p (T.add e t) = p e) (hz : p sxZero = true) (ho : ∀ pos, p (.mk 1 [] 0 [] pos) = true) (ht : ∀ c q pos, p ((sxScan (c :: q)).tree pos) = true) (l : By) : (rfRead l).1.every p = true := by
  have hz' : sxZero.every p = true := by rw [T.every_eq, hz]; rfl
  unfold rfRead
  split
  · exact hz'
  · exact rfGo_every hp hz' ho ht _ _ _ _ (by simp [hz'])
/-- A text that was read is of at most 40 bytes. -/
def textB (t : T) : Bool := !(t.kind == 4) || decide (t.s.length ≤ 40)
theorem scan_text (c : UInt8) (q : By) (pos : Nat) : textB ((sxScan (c :: q)).tree pos) = true := by
  unfold textB
  simp only [Tk.tree, T.kind, T.s]
  simp only [sxScan]
  split
  · decide
  split
  · decide
  split
  · have := sxText_s q.length q [] 1 (Nat.le_refl _)
    rw [decide_eq_true this, Bool.or_true]
  split
  · simp only [sxNumber]
    split
    · rw [(sxNum_n false (sxDigits q) (sxDigits_all q)).2]
      simp
    · rw [(sxNum_n true (sxDigits (c :: q)) (sxDigits_all (c :: q))).2]
      simp
  split
  · simp
  · simp [sxWrong]
theorem rf_texts (l : By) : (rfRead l).1.every textB = true :=
  rfRead_every (fun e t => rfl) (by decide) (fun pos => rfl) scan_text l

/-- A text within an expression is of at most 40 bytes. -/
def exprB (e : T) : Bool := !(e.kind == 3) || decide (e.s.length ≤ 40)
theorem exprB_leaf {k : Int} {s : By} {n : Int} {l : List T} {p : Nat} (h : s.length ≤ 40) : exprB (.mk k s n l p) = true := by
  unfold exprB
  rw [Bool.or_eq_true]
  exact .inr (decide_eq_true h)
theorem fairB_mk {k : Int} {s : By} {n : Int} {l : List T} {p : Nat} (h1 : i64R n) (h2 : s.length ≤ 100000) : fairB (.mk k s n l p) = true := by
  unfold fairB
  rw [Bool.and_eq_true]
  exact ⟨decide_eq_true h1, decide_eq_true h2⟩
theorem fairB_of {k : Int} {s : By} {n : Int} {l : List T} {p : Nat} (h : fairB (.mk k s n l p) = true) : i64R n ∧ s.length ≤ 100000 := by
  unfold fairB at h
  rw [Bool.and_eq_true] at h
  exact ⟨of_decide_eq_true h.1, of_decide_eq_true h.2⟩
theorem xReads_every {p : T → Bool} (hz : sxZero.every p = true) (s : By) (hp : ∀ l, p (.mk 4 s 0 l 0) = true) : ∀ (rs : List XRes) (done : List T), (∀ t ∈ done, t.every p = true) → (∀ r ∈ rs, r.1.every p = true) → (xReads s done rs).1.every p = true
  | [], done, hd, _ => by
    simp only [xReads]
    rw [T.every_eq, hp]
    show (true && done.all (T.every p)) = true
    rw [Bool.true_and, List.all_eq_true]
    exact hd
  | r :: rs, done, hd, hr => by
    unfold xReads
    split
    · refine xReads_every hz s hp rs _ (fun t ht => ?_) fun x hx => hr x (List.mem_cons_of_mem _ hx)
      rcases List.mem_append.1 ht with h | h
      · exact hd t h
      · simp at h; subst h; exact hr r (List.mem_cons_self ..)
    · exact hz
theorem xRead_open2 (s : By) (n : Int) (l : List T) (p : Nat) : xRead (.mk 1 s n l p) = (match l with
    | [] => xBad 12 p
    | h :: q => if h.kind == 2 && !(xTakes h.s == 0) then (if q.length == xTakes h.s then xReads h.s [] (q.map xRead) else xBad 23 p) else xBad 12 p) := by
  cases l with
  | nil => rfl
  | cons h q => simp only [xRead, xReadAll_map]; rfl
theorem xRead_other {k : Int} (s : By) (n : Int) (l : List T) (p : Nat) (h1 : k ≠ 1) : xRead (.mk k s n l p) = if k == 2 then (if xName s then (.mk 1 s 0 [] 0, 0, 0) else xBad 20 p) else if k == 3 then (.mk 2 [] n [] 0, 0, 0) else if k == 4 then (.mk 3 s 0 [] 0, 0, 0) else xBad 12 p := by
  have h : (k == 1) = false := beq_eq_false_iff_ne.2 h1
  cases l <;> simp only [xRead, h, Bool.false_eq_true, if_false]
mutual
theorem xRead_texts : ∀ t : T, t.every textB = true → (xRead t).1.every exprB = true
  | .mk k s n l p, h => by
    have hz : sxZero.every exprB = true := by decide +kernel
    rw [T.every, Bool.and_eq_true] at h
    have hl := xReadAll_texts l h.2
    by_cases k1 : k = 1
    · subst k1
      rw [xRead_open2]
      cases l with
      | nil => exact hz
      | cons hd q =>
        simp only
        split
        · split
          · refine xReads_every hz hd.s (fun l => rfl) _ [] (fun t ht => by cases ht) fun r hr => ?_
            obtain ⟨t, ht, rfl⟩ := List.mem_map.1 hr
            exact hl t (List.mem_cons_of_mem _ ht)
          · exact hz
        · exact hz
    · rw [xRead_other s n l p k1]
      split
      · split
        · simp [T.every, T.everys, exprB, T.kind]
        · exact hz
      split
      · simp [T.every, T.everys, exprB, T.kind]
      split
      · rename_i h4
        have h5 := h.1
        unfold textB at h5
        have h6 : s.length ≤ 40 := by
          rw [show (T.mk k s n l p).kind = k from rfl, h4, Bool.not_true, Bool.false_or] at h5
          exact of_decide_eq_true h5
        simp [T.every, T.everys, exprB_leaf h6]
      · exact hz
theorem xReadAll_texts : ∀ l : List T, T.everys textB l = true → ∀ t ∈ l, (xRead t).1.every exprB = true
  | [], _ => fun t ht => by cases ht
  | a :: l, h => by
    rw [T.everys, Bool.and_eq_true] at h
    intro t ht
    rcases List.mem_cons.1 ht with h3 | h3
    · rw [h3]; exact xRead_texts a h.1
    · exact xReadAll_texts l h.2 t h3
end
mutual
theorem xRead_fair : ∀ t : T, t.every fairB = true → (xRead t).1.every fairB = true
  | .mk k s n l p, h => by
    have hz : sxZero.every fairB = true := by decide +kernel
    rw [T.every, Bool.and_eq_true] at h
    have hl := xReadAll_fair l h.2
    have hl2 := h.2
    have h1 := fairB_of h.1
    have hi0 : i64R 0 := by decide
    by_cases k1 : k = 1
    · subst k1
      rw [xRead_open2]
      cases l with
      | nil => exact hz
      | cons hd q =>
        simp only
        have hh : hd.s.length ≤ 100000 := by
          rw [T.everys, Bool.and_eq_true, T.every_eq, Bool.and_eq_true] at hl2
          have := hl2.1.1
          unfold fairB at this
          rw [Bool.and_eq_true] at this
          exact of_decide_eq_true this.2
        split
        · split
          · refine xReads_every hz hd.s (fun l => ?_) _ [] (fun t ht => by cases ht) fun r hr => ?_
            · exact fairB_mk hi0 hh
            · obtain ⟨t, ht, rfl⟩ := List.mem_map.1 hr
              exact hl t (List.mem_cons_of_mem _ ht)
          · exact hz
        · exact hz
    · rw [xRead_other s n l p k1]
      split
      · split
        · simp [T.every, T.everys, fairB_mk hi0 h1.2]
        · exact hz
      split
      · simp [T.every, T.everys, fairB_mk h1.1 (show ([] : By).length ≤ 100000 by simp)]
      split
      · simp [T.every, T.everys, fairB_mk hi0 h1.2]
      · exact hz
theorem xReadAll_fair : ∀ l : List T, T.everys fairB l = true → ∀ t ∈ l, (xRead t).1.every fairB = true
  | [], _ => fun t ht => by cases ht
  | a :: l, h => by
    rw [T.everys, Bool.and_eq_true] at h
    intro t ht
    rcases List.mem_cons.1 ht with h3 | h3
    · rw [h3]; exact xRead_fair a h.1
    · exact xReadAll_fair l h.2 t h3
end
theorem xReads_size (s : By) : ∀ (rs : List XRes) (done : List T), (xReads s done rs).1.size ≤ (done.map T.size).sum + (rs.map fun r => r.1.size).sum + 1
  | [], done => by
    simp only [xReads]
    rw [T.size_eq]
    simp [T.kids]
  | r :: rs, done => by
    unfold xReads
    split
    · have := xReads_size s rs (done ++ [r.1])
      simp only [List.map_append, List.sum_append, List.map_cons, List.sum_cons, List.map_nil, List.sum_nil] at this ⊢
      omega
    · simp [sxZero, T.size, T.sizes]
theorem sum_map_le {α : Type} {f g : α → Nat} : ∀ {l : List α}, (∀ x ∈ l, f x ≤ g x) → (l.map f).sum ≤ (l.map g).sum
  | [], _ => Nat.le_refl _
  | a :: l, h => by
    have h1 := h a (List.mem_cons_self ..)
    have h2 := sum_map_le (l := l) fun x hx => h x (List.mem_cons_of_mem _ hx)
    simp only [List.map_cons, List.sum_cons]
    omega
mutual
theorem xRead_size : ∀ t : T, (xRead t).1.size ≤ t.size
  | .mk k s n l p => by
    have hp := T.size_pos (.mk k s n l p)
    have hb : sxZero.size ≤ (T.mk k s n l p).size := hp
    have hl := xReadAll_size l
    by_cases k1 : k = 1
    · subst k1
      rw [xRead_open2]
      cases l with
      | nil => exact hb
      | cons hd q =>
        simp only
        split
        · split
          · have h1 := xReads_size hd.s (q.map xRead) []
            have h2 : ((q.map xRead).map fun r => r.1.size).sum ≤ (q.map T.size).sum := by
              rw [List.map_map]
              exact sum_map_le fun t ht => hl t (List.mem_cons_of_mem _ ht)
            rw [T.size_eq (.mk 1 s n (hd :: q) p)]
            simp only [T.kids, List.map_cons, List.sum_cons, List.map_nil, List.sum_nil] at h1 ⊢
            omega
          · exact hb
        · exact hb
    · rw [xRead_other s n l p k1]
      split
      · split
        · exact hp
        · exact hb
      split
      · exact hp
      split
      · exact hp
      · exact hb
theorem xReadAll_size : ∀ l : List T, ∀ t ∈ l, (xRead t).1.size ≤ t.size
  | [] => fun t ht => by cases ht
  | a :: l => by
    intro t ht
    rcases List.mem_cons.1 ht with h3 | h3
    · rw [h3]; exact xRead_size a
    · exact xReadAll_size l t h3
end
mutual
/-- What Read makes is right. -/
theorem xRead_right : ∀ t : T, (xRead t).2.1 = 0 → xRight (xRead t).1 = true
  | .mk k s n l p => by
    intro h
    have hl := xReadAll_right l
    by_cases k1 : k = 1
    · subst k1
      rw [xRead_open2] at h ⊢
      cases l with
      | nil => simp [xBad] at h
      | cons hd q =>
        simp only at h ⊢
        by_cases hk : (hd.kind == 2 && !(xTakes hd.s == 0)) = true
        · rw [if_pos hk] at h ⊢
          by_cases hq : (q.length == xTakes hd.s) = true
          · rw [if_pos hq] at h ⊢
            have h3 : ∀ (rs : List XRes) (done : List T), (xReads hd.s done rs).2.1 = 0 → (∀ r ∈ rs, r.2.1 = 0) ∧ xReads hd.s done rs = (.mk 4 hd.s 0 (done ++ rs.map (·.1)) 0, 0, 0) := by
              intro rs
              induction rs with
              | nil => intro done _; exact ⟨(fun _ h => by cases h), by simp [xReads]⟩
              | cons r rs ih =>
                intro done h
                unfold xReads at h ⊢
                by_cases hr : r.2.1 = 0
                · rw [if_pos (by simp [hr])] at h ⊢
                  obtain ⟨h1, h2⟩ := ih (done ++ [r.1]) h
                  refine ⟨fun x hx => ?_, by rw [h2]; simp⟩
                  rcases List.mem_cons.1 hx with rfl | hx
                  · exact hr
                  · exact h1 x hx
                · rw [if_neg (by simp [hr])] at h
                  exact absurd h hr
            obtain ⟨h1, h2⟩ := h3 _ [] h
            rw [h2]
            simp only [List.nil_append, List.map_map]
            simp only [Bool.and_eq_true, beq_iff_eq, Bool.not_eq_true', beq_eq_false_iff_ne] at hk hq
            rw [xRight, xRights_all, Bool.and_eq_true, List.all_eq_true]
            refine ⟨?_, fun t ht => ?_⟩
            · have : (xTakes hd.s == 0) = false := beq_eq_false_iff_ne.2 hk.2
              have e : ∀ L : List T, xForeign (.mk 4 hd.s 0 L 0) = (xTakes hd.s == 0 || !((0 : Int) == 0) || !(L.length == xTakes hd.s)) := fun L => rfl
              rw [e, this, List.length_map, hq]
              simp
            · obtain ⟨u, hu, rfl⟩ := List.mem_map.1 ht
              exact hl u (List.mem_cons_of_mem _ hu) (h1 _ (List.mem_map.2 ⟨u, hu, rfl⟩))
          · rw [if_neg hq] at h; exact absurd h (by simp [xBad])
        · rw [if_neg hk] at h; exact absurd h (by simp [xBad])
    · rw [xRead_other s n l p k1] at h ⊢
      by_cases k2 : k = 2
      · subst k2
        by_cases hn : xName s = true
        · simp [hn, xRight, xRights, xForeign, T.kind, T.s, T.n, T.kids]
        · simp [hn, xBad] at h
      · by_cases k3 : k = 3
        · subst k3; rfl
        · by_cases k4 : k = 4
          · subst k4; rfl
          · simp [k2, k3, k4, xBad] at h
theorem xReadAll_right : ∀ l : List T, ∀ t ∈ l, (xRead t).2.1 = 0 → xRight (xRead t).1 = true
  | [] => fun t ht => by cases ht
  | a :: l => by
    intro t ht
    rcases List.mem_cons.1 ht with h3 | h3
    · rw [h3]; exact xRead_right a
    · exact xReadAll_right l t h3
end
/-- What a row that fits has at a column's place. -/
theorem fits_at : ∀ {cols : List C} {r : List V} {i : Nat}, fitsL cols r = true → i < cols.length → rightVV (r.getD i v0) = true ∧ (r.getD i v0).1 = (cols.getD i (⟨#[]⟩, 0)).2
  | [], r, i, _, hi => by simp at hi
  | c :: l, [], i, h, _ => by cases h
  | c :: l, x :: r, 0, h, _ => by
    unfold fitsL at h
    simp only [Bool.and_eq_true, beq_iff_eq] at h
    exact ⟨h.1.1, h.1.2⟩
  | c :: l, x :: r, i + 1, h, hi => by
    unfold fitsL at h
    rw [Bool.and_eq_true] at h
    have := fits_at (i := i) h.2 (by simpa using hi)
    simpa using this
/-- A value of a Kind, or a refusal. -/
def Sound (R : VRes) (k : Int) : Prop := (R.2 = 0 ∧ rightVV R.1 = true ∧ R.1.1 = k) ∨ ((R.2 = 26 ∨ R.2 = 3) ∧ R.1 = v0)
theorem sound_num (n : Int) : Sound (vNum n, 0) 1 := .inl ⟨rfl, (show rightV 1 n ⟨#[]⟩ = true by simp [rightV]), rfl⟩
theorem sound_fit (n : Int) : Sound (xFit n) 1 := by
  unfold xFit
  split
  · exact sound_num n
  · exact .inr ⟨.inl rfl, rfl⟩
theorem sound_truth (b : Bool) : Sound (xTruth b) 1 := sound_num _
theorem sound_cat (a b : ByteArray) : Sound (if a.size + b.size ≤ 40 then (vStr (a ++ b), 0) else (v0, 3)) 2 := by
  split
  · rename_i h
    refine .inl ⟨rfl, ?_, rfl⟩
    have : (a ++ b).size ≤ 40 := by simp; omega
    simp [vStr, rightV]
    omega
  · exact .inr ⟨.inr rfl, rfl⟩
theorem op_cases {s : By} (h : (xTwo s || xOne s) = true) : s = bAdd ∨ s = bSub ∨ s = bMul ∨ s = bEq ∨ s = bLt ∨ s = bAnd ∨ s = bOr ∨ s = bCat ∨ s = bNeg ∨ s = bNot ∨ s = bLen := by
  unfold xTwo xOne at h
  simp only [Bool.or_eq_true, beq_iff_eq] at h
  rcases h with (((((((h1 | h1) | h1) | h1) | h1) | h1) | h1) | h1) | ((h1 | h1) | h1) <;> simp [h1]
theorem perform_sound {s : By} (h : (xTwo s || xOne s) = true) (a b : V) : Sound (xPerform s a b) (if s == bCat then 2 else 1) := by
  rcases op_cases h with h1 | h1 | h1 | h1 | h1 | h1 | h1 | h1 | h1 | h1 | h1 <;> subst h1
  · exact sound_fit _
  · exact sound_fit _
  · exact sound_fit _
  · exact sound_truth _
  · exact sound_truth _
  · exact sound_truth _
  · exact sound_truth _
  · exact sound_cat _ _
  · exact sound_fit _
  · exact sound_truth _
  · exact sound_num _
theorem applied_kind {s : By} (h : (xTwo s || xOne s) = true) (ks : List Int) (h0 : (xApplied s ks).2 = 0) : (xApplied s ks).1 = if s == bCat then 2 else 1 := by
  have key : ∀ (b : Bool) (k : Int), (if b then (k, (0 : Int)) else (0, 22)).2 = 0 → (if b then (k, (0 : Int)) else (0, 22)).1 = k := by
    intro b k h
    cases b
    · simp at h
    · rfl
  rcases op_cases h with h1 | h1 | h1 | h1 | h1 | h1 | h1 | h1 | h1 | h1 | h1 <;> subst h1
  · exact key (xAll ks 1) 1 h0
  · exact key (xAll ks 1) 1 h0
  · exact key (xAll ks 1) 1 h0
  · exact key (ks.getD 0 0 == ks.getD 1 0) 1 h0
  · exact key (ks.getD 0 0 == ks.getD 1 0) 1 h0
  · exact key (xAll ks 1) 1 h0
  · exact key (xAll ks 1) 1 h0
  · exact key (xAll ks 2) 2 h0
  · exact key (xAll ks 1) 1 h0
  · exact key (xAll ks 1) 1 h0
  · exact key (xAll ks 2) 1 h0
theorem xKindsGo_all (s : By) : ∀ (l : List (Int × Int)) (done : List Int), (∀ r ∈ l, r.2 = 0) → xKindsGo s done l = xApplied s (done ++ l.map (·.1))
  | [], done, _ => by simp [xKindsGo]
  | r :: l, done, h => by
    unfold xKindsGo
    rw [if_pos (by simp [h r (List.mem_cons_self ..)]), xKindsGo_all s l _ fun x hx => h x (List.mem_cons_of_mem _ hx)]
    simp
def SoundAt (cols : List C) (r : List V) (t : T) : Prop := xRight t = true → t.every exprB = true → (xKind cols t).2 = 0 → Sound (xEval cols r t) (xKind cols t).1
theorem sound_go (s : By) (h : (xTwo s || xOne s) = true) : ∀ (l : List (VRes × Int)) (done : List V), (∀ x ∈ l, Sound x.1 x.2) → Sound (xEvalsGo s done (l.map (·.1))) (if s == bCat then 2 else 1)
  | [], done, _ => perform_sound h _ _
  | x :: l, done, hs => by
    simp only [List.map_cons]
    unfold xEvalsGo
    rcases hs x (List.mem_cons_self ..) with ⟨h0, _, _⟩ | ⟨h0, _⟩
    · rw [if_pos (by simp [h0])]
      exact sound_go s h l _ fun y hy => hs y (List.mem_cons_of_mem _ hy)
    · rw [if_neg (by rcases h0 with h0 | h0 <;> simp [h0])]
      exact .inr ⟨h0, rfl⟩
theorem three_of' {α : Type} : ∀ {l : List α}, l.length = 3 → ∃ a b c, l = [a, b, c]
  | [], h => by simp at h
  | [_], h => by simp at h
  | [_, _], h => by simp at h
  | [a, b, c], _ => ⟨a, b, c, rfl⟩
  | _ :: _ :: _ :: _ :: _, h => by simp at h
theorem sound_step (cols : List C) (r : List V) (hfit : fitsL cols r = true) (k : Int) (s : By) (n : Int) (l : List T) (p : Nat) (hl : ∀ t ∈ l, SoundAt cols r t) : SoundAt cols r (.mk k s n l p) := by
  intro hr he hk
  rw [xRight, xRights_all, Bool.and_eq_true, List.all_eq_true] at hr
  rw [T.every, T.everys_all, Bool.and_eq_true, List.all_eq_true] at he
  obtain ⟨hf, hrs⟩ := hr
  obtain ⟨he1, hes⟩ := he
  simp only [Bool.not_eq_true', xForeign, T.kind, T.s, T.n, T.kids] at hf
  by_cases k1 : k = 1
  · subst k1
    simp only [xEval, xKind, beq_self_eq_true, if_true] at hk ⊢
    cases hc : findC cols (bstr s) with
    | none => rw [hc] at hk; simp at hk
    | some i =>
      simp only [hc] at hk ⊢
      obtain ⟨h1, h2⟩ := fits_at hfit (findC_lt hc)
      exact .inl ⟨rfl, h1, h2⟩
  have k1' : (k == 1) = false := beq_eq_false_iff_ne.2 k1
  by_cases k2 : k = 2
  · subst k2
    exact sound_num n
  have k2' : (k == 2) = false := beq_eq_false_iff_ne.2 k2
  by_cases k3 : k = 3
  · subst k3
    have he2 : s.length ≤ 40 := by
      unfold exprB at he1
      rw [show (T.mk 3 s n l p).kind = 3 from rfl, show (!((3 : Int) == 3)) = false from rfl, Bool.false_or] at he1
      exact of_decide_eq_true he1
    refine .inl ⟨rfl, ?_, rfl⟩
    show rightV 2 0 (bstr s) = true
    simp [rightV, bstr, ByteArray.size, he2]
  have k3' : (k == 3) = false := beq_eq_false_iff_ne.2 k3
  by_cases k4 : k = 4
  · subst k4
    simp only [k1', k2', k3', Bool.false_eq_true, if_false, beq_self_eq_true, if_true, Bool.or_eq_false_iff, Bool.not_eq_false', beq_iff_eq, beq_eq_false_iff_ne] at hf
    obtain ⟨⟨ht0, hn0⟩, hlen⟩ := hf
    simp only [xEval, xKind, k1', k2', k3', Bool.false_eq_true, if_false] at hk ⊢
    have hks := xKindsGo_ok s _ [] hk
    rw [xKinds_map] at hk hks ⊢
    rw [xKindsGo_all s _ [] hks] at hk ⊢
    have hk0 : ∀ t ∈ l, (xKind cols t).2 = 0 := fun t ht => hks _ (List.mem_map.2 ⟨t, ht, rfl⟩)
    have hS : ∀ t ∈ l, Sound (xEval cols r t) (xKind cols t).1 := fun t ht => hl t ht (hrs t ht) (hes t ht) (hk0 t ht)
    rw [xEvals_map]
    by_cases hi : s = bIf
    · subst hi
      obtain ⟨a, b, c, rfl⟩ := three_of' (hlen.trans rfl)
      rw [if_pos (by rfl)]
      have hS0 := hS a (by simp)
      have hS1 := hS b (by simp)
      have hS2 := hS c (by simp)
      simp only [List.map_cons, List.map_nil, List.nil_append] at hk ⊢
      generalize xKind cols a = ka at *
      generalize xKind cols b = kb at *
      generalize xKind cols c = kc at *
      have e : xApplied bIf [ka.1, kb.1, kc.1] = if ka.1 == 1 && kb.1 == kc.1 then (kb.1, 0) else (0, 22) := rfl
      rw [e] at hk ⊢
      by_cases hc : (ka.1 == 1 && kb.1 == kc.1) = true
      · rw [if_pos hc]
        simp only [Bool.and_eq_true, beq_iff_eq] at hc
        unfold xChoose
        simp only
        rcases hS0 with ⟨h0, _, _⟩ | ⟨h0, _⟩
        · rw [if_pos (by simp [h0])]
          split
          · rw [hc.2]; exact hS2
          · exact hS1
        · rw [if_neg (by rcases h0 with h0 | h0 <;> simp [h0])]
          exact .inr ⟨h0, rfl⟩
      · rw [if_neg hc] at hk; exact absurd hk (by simp)
    · have hib : (s == bIf) = false := beq_eq_false_iff_ne.2 hi
      rw [hib]
      simp only [Bool.false_eq_true, if_false]
      have hop := (takes_12 ht0 hib).1
      rw [applied_kind hop _ hk]
      have := sound_go s hop (l.map fun t => (xEval cols r t, (xKind cols t).1)) [] fun x hx => by
        obtain ⟨t, ht, rfl⟩ := List.mem_map.1 hx
        exact hS t ht
      rw [List.map_map] at this
      exact this
  · simp [k1', k2', k3', k4] at hf
mutual
theorem xEval_sound (cols : List C) (r : List V) (hfit : fitsL cols r = true) : ∀ t : T, SoundAt cols r t
  | .mk k s n l p => sound_step cols r hfit k s n l p (xEvals_sound cols r hfit l)
theorem xEvals_sound (cols : List C) (r : List V) (hfit : fitsL cols r = true) : ∀ l : List T, ∀ t ∈ l, SoundAt cols r t
  | [] => fun t ht => by cases ht
  | a :: l => by
    intro t ht
    rcases List.mem_cons.1 ht with h3 | h3
    · rw [h3]; exact xEval_sound cols r hfit a
    · exact xEvals_sound cols r hfit l t h3
end
/-- Two rows that are alike where the expression looks. -/
def agreeB (cols : List C) (r r' : List V) (e : T) : Bool := !(e.kind == 1) || (match findC cols (bstr e.s) with | none => true | some i => decide (r.getD i v0 = r'.getD i v0))
mutual
theorem xEval_agree (cols : List C) (r r' : List V) : ∀ t : T, t.every (agreeB cols r r') = true → xEval cols r t = xEval cols r' t
  | .mk k s n l p, h => by
    rw [T.every, Bool.and_eq_true] at h
    have hl := xEvals_agree cols r r' l h.2
    have h1 := h.1
    unfold agreeB at h1
    simp only [T.kind, T.s] at h1
    simp only [xEval, hl]
    by_cases k1 : k = 1
    · subst k1
      simp only [beq_self_eq_true, if_true, Bool.not_true, Bool.false_or] at h1 ⊢
      cases hc : findC cols (bstr s) with
      | none => rfl
      | some i =>
        simp only [hc, decide_eq_true_iff] at h1 ⊢
        rw [h1]
    · have k1' : (k == 1) = false := beq_eq_false_iff_ne.2 k1
      simp only [k1', Bool.false_eq_true, if_false]
theorem xEvals_agree (cols : List C) (r r' : List V) : ∀ l : List T, T.everys (agreeB cols r r') l = true → xEvals cols r l = xEvals cols r' l
  | [], _ => rfl
  | a :: l, h => by
    rw [T.everys, Bool.and_eq_true] at h
    rw [xEvals, xEvals, xEval_agree cols r r' a h.1, xEvals_agree cols r r' l h.2]
end
end Go.Proofs.YtnljagmpeifikaaDoor

namespace Go.Proofs.YtnljagmpeifikaaDoor
open Go.RowKit
set_option linter.unusedVariables false

abbrev kidsTV : Value := .func (.func 21) #[] #[]
/-- The Kids that count, as they lie. -/
structure KidsAt (b0 : Nat) (w : World) (x : M) (A : Option Addr) (n cap : Nat) (Z : List M) : Prop where
  call : ∀ w1, Calls Tryd.prog 21 #[.agg #[.int .i64 x.kind, .string ⟨x.s.toArray⟩, .int .i64 x.n, .slice x.A x.kids.length x.cap, .int .i64 (x.pos : Int)]] w1 fun e w' => e = .returned (.slice A n cap) ∧ Ev w1 w'
  sl : Ms w A n cap Z
  lies : ∀ y ∈ Z, Lies b0 [] w y
  size : (Z.map fun x => x.t.size).sum + 1 ≤ x.t.size
  len : Z.length = n

set_option maxRecDepth 100000 in
theorem kids_at {b0 : Nat} {w : World} {x : M} (h : Lies b0 [] w x) : ∃ A n cap Z, KidsAt b0 w x A n cap Z := by
  by_cases hk : x.kind = 1
  · refine ⟨x.A, x.kids.length, x.cap, x.kids, fun w1 => ?_, h.ms, h.kid, ?_, rfl⟩
    · rw [hk]
      go_enter Tryd.func21, Tryd.ntmps21
      go_wp2
      go_ret
      exact ⟨rfl, Ev.alloc _ _⟩
    · have h1 := T.size_eq x.t
      rw [M.t_kids, List.map_map] at h1
      have : (T.size ∘ M.t) = (fun x : M => x.t.size) := rfl
      rw [this] at h1
      omega
  · refine ⟨none, 0, 0, [], fun w1 => ?_, Sl.nil_ w, (fun y hy => by cases hy), ?_, rfl⟩
    · have hk' : (x.kind != 1) = true := by simp [hk]
      go_enter Tryd.func21, Tryd.ntmps21
      go_wp2
      go_ret
      exact ⟨rfl, Ev.alloc _ _⟩
    · have := T.size_pos x.t
      simp
      omega
/-- How far the parts are gathered. -/
structure PtT (m : M) (b0 : Nat) (w0 : World) (v : Value) (L : List M) (i : Nat) (w : World) : Prop where
  own : Ow 36 5 mc w0.heap.size w v L
  ev : Ev w0 w
  lies : ∀ x ∈ L, Lies b0 [] w0 x
  le : i ≤ L.length
  size : i + ((L.drop i).map fun x => x.t.size).sum ≤ m.t.size
theorem PtT.short {m : M} {b0 : Nat} {w0 w : World} {v : Value} {L : List M} {i : Nat} (h : PtT m b0 w0 v L i w) : L.length ≤ m.t.size := by
  have h1 := sum_len ((L.drop i).map M.t)
  rw [List.length_map, List.length_drop, List.map_map] at h1
  have h2 := h.size
  have h3 := h.le
  have : (T.size ∘ M.t) = (fun x : M => x.t.size) := rfl
  rw [this] at h1
  omega
theorem PtT.next {m : M} {b0 : Nat} {w0 w w' : World} {v v' : Value} {L Z : List M} {i : Nat} {x : M} (h : PtT m b0 w0 v L i w) (hx : L[i]? = some x) (hZ : ∀ y ∈ Z, Lies b0 [] w0 y) (hs : (Z.map fun x => x.t.size).sum + 1 ≤ x.t.size) (ho : Ow 36 5 mc w0.heap.size w' v' (L ++ Z)) (hE : Ev w0 w') : PtT m b0 w0 v' (L ++ Z) (i + 1) w' := by
  obtain ⟨hi, hxe⟩ := List.getElem?_eq_some_iff.1 hx
  have hd : L.drop i = x :: L.drop (i + 1) := by rw [List.drop_eq_getElem_cons hi, hxe]
  have hd2 : (L ++ Z).drop (i + 1) = L.drop (i + 1) ++ Z := by rw [List.drop_append_of_le_length hi]
  refine ⟨ho, hE, fun y hy => ?_, by rw [List.length_append]; omega, ?_⟩
  · rcases List.mem_append.1 hy with h1 | h1
    · exact h.lies y h1
    · exact hZ y h1
  · have h1 := h.size
    rw [hd] at h1
    rw [hd2]
    simp only [List.map_append, List.sum_append, List.map_cons, List.sum_cons] at h1 ⊢
    omega

set_option maxRecDepth 100000 in
set_option maxHeartbeats 1600000 in
theorem ex_partsT (m : M) (b0 : Nat) (w : World) (h : Lies b0 [] w m) (hsz : m.t.size ≤ 16000) :
    Calls Tryd.prog 20 #[.agg #[.int .i64 m.kind, .string ⟨m.s.toArray⟩, .int .i64 m.n, .slice m.A m.kids.length m.cap, .int .i64 (m.pos : Int)], kidsTV] w fun e w' => ∃ (A : Option Addr) (n cap : Nat), e = .returned (.tuple #[.slice A n cap, .bool true]) ∧ Ev w w' := by
  have hE0 := (Ev.alloc w (.cells #[.int .i64 m.kind, .string ⟨m.s.toArray⟩, .int .i64 m.n, .slice m.A m.kids.length m.cap, .int .i64 (m.pos : Int)] 36)).trans (Ev.alloc _ (.cells #[.int .i64 m.kind, .string ⟨m.s.toArray⟩, .int .i64 m.n, .slice m.A m.kids.length m.cap, .int .i64 (m.pos : Int)] 36))
  have hP : PtT m b0 w (.slice (some ⟨w.heap.size + 1, 0, none⟩) 1 1) [m] 0 ((w.alloc (.cells #[.int .i64 m.kind, .string ⟨m.s.toArray⟩, .int .i64 m.n, .slice m.A m.kids.length m.cap, .int .i64 (m.pos : Int)] 36)).alloc (.cells #[.int .i64 m.kind, .string ⟨m.s.toArray⟩, .int .i64 m.n, .slice m.A m.kids.length m.cap, .int .i64 (m.pos : Int)] 36)) := by
    refine ⟨?_, hE0, fun x hx => by simp at hx; subst hx; exact h, by simp, by simp⟩
    have := Ow.made (et := 36) (base := w.heap.size) encM (w.alloc (.cells #[.int .i64 m.kind, .string ⟨m.s.toArray⟩, .int .i64 m.n, .slice m.A m.kids.length m.cap, .int .i64 (m.pos : Int)] 36)) [m] #[.int .i64 m.kind, .string ⟨m.s.toArray⟩, .int .i64 m.n, .slice m.A m.kids.length m.cap, .int .i64 (m.pos : Int)] rfl (by simp) (by simp)
    simpa using this
  have HP := Lib.hid hP
  clear hP hE0
  go_enter Tryd.func20, Tryd.ntmps20
  go_wp2
  go_loopw [6, 7] (fun av iv wr => ∃ (A : Option Addr) (n cap i : Nat) (L : List M), av = .slice A n cap ∧ iv = .int .i64 (i : Int) ∧ n = L.length ∧ Hid (PtT m b0 w (.slice A n cap) L i wr)) (fun _ iv _ => m.t.size - (intOf iv).toNat)
  case atStart => exact ⟨_, 1, 1, 0, [m], rfl, rfl, rfl, HP⟩
  case round =>
    obtain ⟨A, n, cap, i, L, rfl, rfl, hn, HS⟩ := hrel
    have hns := HS.out.short
    rw [← hn] at hns
    have HNL := Lib.hid hn
    clear hn
    obtain ⟨_, cap', hvv, hSl, hA⟩ := HS.out.own.form encM
    injection hvv with h1 h2 h3
    subst h1
    subst h3
    clear h2
    rw [← HNL.out] at hSl
    have hnc := hSl.le
    have hcm := hSl.max
    by_cases hi : i < n
    · obtain ⟨x, hx⟩ := hSl.at hi
      obtain ⟨b, off, rfl, hb, c0, c1, c2, c3, c4⟩ := Ms.cell hSl hx
      have HX := Lib.hid hx
      have hLx := HS.out.lies x (List.mem_of_getElem? hx)
      obtain ⟨xA, xn, xcap, Z, hKA⟩ := kids_at hLx
      have hks : xn + n ≤ m.t.size := by
        have h4 := HS.out.size
        have hd : L.drop i = x :: L.drop (i + 1) := by
          obtain ⟨hi', e⟩ := List.getElem?_eq_some_iff.1 hx
          rw [List.drop_eq_getElem_cons hi', e]
        rw [hd] at h4
        have h5 := hKA.size
        have h6 := sum_len (Z.map M.t)
        rw [List.length_map, List.map_map, hKA.len] at h6
        have h7 := sum_len ((L.drop (i + 1)).map M.t)
        rw [List.length_map, List.map_map, List.length_drop, ← HNL.out] at h7
        have : (T.size ∘ M.t) = (fun x : M => x.t.size) := rfl
        rw [this] at h6 h7
        simp only [List.map_cons, List.sum_cons] at h4
        omega
      have HKA := Lib.hid hKA
      have HKC := Lib.hid hKA.call
      have HKL := Lib.hid hKA.len
      have kc1 := hKA.sl.le
      have kc2 := hKA.sl.max
      unfold M.kv at c3
      have i1 : (0 : Int) ≤ (i : Int) := by omega
      have i2 : (i : Int) < (n : Int) := by omega
      have i3 : ¬ ((16384 : Int) - (n : Int) < (xn : Int)) := by omega
      clear hx hLx hA hSl hb hKA
      go_wp2_with (first
        | ((with_reducible refine (HKC.out _).mono ?_); rintro e w1 ⟨rfl, hE1⟩)
        | ((show wpList _ _ _ (⟨some 31, _, _, _, _, _⟩ :: _) _ _); refine wpList_append_ow (o := ⟨some 31, _, _, _, _, _⟩) rfl 34 (.tmp 29) (.tmp 30) rfl encM Tryd.underlying34 Tryd.infoTree rfl rfl (HS.out.own.ev hE1) xA xn xcap Z rfl (HKA.out.sl.ev (HS.out.ev.trans hE1)) (by rw [HKL.out, ← HNL.out]; omega) (by rw [HKL.out, ← HNL.out]; omega) (HS.out.ev.trans hE1).size ?_; intro v2 w2 hA2; have E2 := ((But.of_ev (HS.out.ev.trans hE1)).then hA2.2.1).ev (fun k hk => (HS.out.own.lt (mem_foot.1 hk)).1); have S2 := HS.out.next HX.out HKA.out.lies HKA.out.size hA2.1 E2; obtain ⟨A2, cap2, rfl, _, _⟩ := hA2.1.form encM; generalize hnn : (L ++ Z).length = nn at S2 ⊢; have HNN2 := Lib.hid hnn.symm; clear hnn))
      go_roundw
      case rel => exact ⟨A2, nn, cap2, i + 1, _, rfl, by go_num, HNN2.out, Lib.hid S2⟩
      case measure => simp [intOf]; omega
    · have hin : i = L.length := by have := HS.out.le; have := HNL.out; omega
      have i2 : ¬ ((i : Int) < (n : Int)) := by omega
      go_wp2
      go_ret2
      exact ⟨⟨_, _, _, rfl⟩, HS.out.ev⟩
/-- The result's box is written: what lies in newer blocks stays. -/
theorem rx_finish {w wa wb : World} {x : M} {g : Nat} (hE : Ev w wb) (hg : w.heap.size ≤ g) (hL : Lx wa.heap.size [] wb x) (hga : g < wa.heap.size) (v0 v1 v2 v3 : Value) : Lx w.heap.size [] (set4 g v0 v1 v2 v3 wb) x ∧ Ev w (set4 g v0 v1 v2 v3 wb) :=
  ⟨((hL.less (K' := [g]) fun k hk => by simp at hk; subst hk; exact .inr (.inl hga)).move (set4_but _ _ _ _ _ _) fun k hk => by cases hk).low (by omega), hE.box (set4_but _ _ _ _ _ _) hg⟩
theorem bx_two (w : World) (c0 c1 c2 c3 c4 : Value) : ∃ w0, (w.alloc (.cells #[c0, c1, c2, c3, c4] 36)).alloc (.cells #[.int .i64 0, .string ⟨#[]⟩, .int .i64 0, .slice none 0 0] 30) = w0 ∧ Ev w w0 ∧ Bx 36 w.heap.size #[c0, c1, c2, c3, c4] w0 ∧ Bx 30 (w.heap.size + 1) #[.int .i64 0, .string ⟨#[]⟩, .int .i64 0, .slice none 0 0] w0 ∧ w.heap.size + 1 < w0.heap.size := by
  have hB : Bx 30 (w.heap.size + 1) #[.int .i64 0, .string ⟨#[]⟩, .int .i64 0, .slice none 0 0] ((w.alloc (.cells #[c0, c1, c2, c3, c4] 36)).alloc (.cells #[.int .i64 0, .string ⟨#[]⟩, .int .i64 0, .slice none 0 0] 30)) := by
    have := Bx.new 30 #[.int .i64 0, .string ⟨#[]⟩, .int .i64 0, .slice none 0 0] (w.alloc (.cells #[c0, c1, c2, c3, c4] 36))
    simpa using this
  exact ⟨_, rfl, (Ev.alloc w _).trans (Ev.alloc _ _), (Bx.new 36 #[c0, c1, c2, c3, c4] w).ev (Ev.alloc _ _), hB, hB.lt⟩

set_option maxRecDepth 100000 in
set_option maxHeartbeats 1600000 in
theorem ex_wrong (why : Int) (m : M) (w : World) : Calls Tryd.prog 22 #[.int .i64 why, .agg #[.int .i64 m.kind, .string ⟨m.s.toArray⟩, .int .i64 m.n, .slice m.A m.kids.length m.cap, .int .i64 (m.pos : Int)]] w (RxOut (sxZero, why, m.pos) w) := by
  obtain ⟨w0, hw0, hE0, hX, hB, hlt⟩ := bx_two w (.int .i64 m.kind) (.string ⟨m.s.toArray⟩) (.int .i64 m.n) (.slice m.A m.kids.length m.cap) (.int .i64 (m.pos : Int))
  have HE := Lib.hid hE0
  have HB := Lib.hid hB
  obtain ⟨⟨c0, c1, c2, c3, c4⟩, _⟩ := hX.five
  obtain ⟨⟨b0_, b1_, b2_, b3_⟩, g0_, g1_, g2_, g3_⟩ := hB.four
  clear hE0 hX hB
  go_enter Tryd.func22, Tryd.ntmps22
  go_wp2
  go_region
  all_goals (
    go_wp2
    (try simp only [Exit.inBlock, Exit.then])
    rw [set4_fold]
    refine bodyPost_ret (results_cell2' rfl _ _ _ _ _ rfl ((HB.out.ev (Ev.drew w0)).set4 _ _ _ _) Tryd.underlying30 rfl Tryd.sizeExpr) rfl ?_
    exact ⟨mzero, rfl, rfl, Lx.leaf, (HE.out.trans (Ev.drew w0)).box (set4_but _ _ _ _ _ _) (by omega)⟩
    )
end Go.Proofs.YtnljagmpeifikaaDoor
