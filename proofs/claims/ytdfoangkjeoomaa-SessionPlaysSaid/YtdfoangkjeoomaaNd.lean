/-
  Ask and Done of a table.
-/
import Derived.Test.YtdfoangkjeoomaaNc
import Derived.StillTail
namespace Go.Proofs.Ytdfoangkjeoomaa
open Go.RowKit
set_option linter.unusedVariables false
set_option maxRecDepth 100000

def rcells (r : RP) : Array Value := #[.int .i64 r.1, .int .i64 r.2.1, .string r.2.2]
def rv (r : RP) : Value := .agg (rcells r)
theorem Try.sizeReply : (Try.prog.info? 26).map (·.size) = some 3 := by kernel_rfl
theorem results_ask {P : Program} {fn : Func} {p u : Tmp} {ty : TypeId} (h : fn.results = #[.tmp u, .cell p ty]) (tmps : Array Value) (w : World) (g : Nat) (cs : Array Value) (d : TypeDesc)
    (hp : tmps.getD p undef = .pointer (some ⟨g, 0, none⟩)) (hg : w.heap[g]? = some (.cells cs ty (0, 0)))
    (hu : P.underlying ty = some d) (hd : (match d with | .struct _ | .array _ _ => true | _ => false) = true) (hi : (P.info? ty).map (·.size) = some cs.size) :
    (results fn tmps).run P w = .ok (.tuple #[tmps.getD u undef, .agg cs]) w := by
  have hp' : tmps[p]?.getD undef = .pointer (some ⟨g, 0, none⟩) := by simpa using hp
  simp [results, h, hp', asAddr, run_loadVar_row w g ty ty cs (0, 0) d hg hu hd hi]

theorem box_set3 {w : World} {g : Nat} {a0 a1 a2 v0 v1 v2 : Value} {T : TypeId} (h : w.heap[g]? = some (.cells #[a0, a1, a2] T (0, 0))) :
    (((w.setCell ⟨g, 0, none⟩ v0).setCell ⟨g, 1, none⟩ v1).setCell ⟨g, 2, none⟩ v2).heap[g]? = some (.cells #[v0, v1, v2] T (0, 0)) := by
  have h1 := set_heap 0 v0 h
  have h2 := set_heap 1 v1 h1
  have h3 := set_heap 2 v2 h2
  simpa using h3
theorem box_but3 {w : World} {g : Nat} {v0 v1 v2 : Value} : But [g] w (((w.setCell ⟨g, 0, none⟩ v0).setCell ⟨g, 1, none⟩ v1).setCell ⟨g, 2, none⟩ v2) :=
  ((But.setCell ⟨g, 0, none⟩ v0 (by simp)).then (But.setCell ⟨g, 1, none⟩ v1 (by simp))).then (But.setCell ⟨g, 2, none⟩ v2 (by simp))

set_option maxHeartbeats 3200000 in
theorem sess_ask (p : Nat) (T : List RQ) (x s : Int) (w : World) (h : TbAt p T w) :
    Calls Try.prog 8 #[.pointer (some ⟨p, 0, none⟩), .int .i64 x, .int .i64 s] w fun e w' => e = .returned (.tuple #[.int .i64 (askK T x s), rv (askR T x s)]) ∧ Ev w w' := by
  have HC := Lib.hid (sess_isClient x)
  have hlt := h.lt
  have hN : (w.alloc (.cells (rcells rp0) 26)).heap[w.heap.size]? = some (.cells (rcells rp0) 26 (0, 0)) := heap_alloc_new w _
  have HN := Lib.hid hN
  by_cases hx : x < 0 ∨ 16 ≤ x ∨ s < 1 ∨ 1073741824 < s
  · have e : askK T x s = 0 := by unfold askK; rw [if_pos hx]
    have e2 : askR T x s = rp0 := by unfold askR; rw [e]; rfl
    rw [e, e2]
    by_cases hcl : 0 ≤ x ∧ x < 16
    · have hi : isC x = true := by simp [isC]; omega
      have HI := Lib.hid hi
      have hs : s < 1 ∨ ¬ s < 1 ∧ 1073741824 < s := by omega
      clear e e2 h hx hi hN
      rcases hs with hs | ⟨hs0, hs⟩
      · go_enter Try.func8, Try.ntmps8
        go_wp2_with (refine (HC.out _).mono ?_; rintro e w' ⟨rfl, rfl⟩; rw [HI.out])
        refine bodyPost_ret (results_ask rfl _ _ _ _ _ rfl HN.out Try.underlying26 rfl Try.sizeReply) rfl ?_
        exact ⟨rfl, Ev.alloc _ _⟩
      · go_enter Try.func8, Try.ntmps8
        go_wp2_with (refine (HC.out _).mono ?_; rintro e w' ⟨rfl, rfl⟩; rw [HI.out])
        refine bodyPost_ret (results_ask rfl _ _ _ _ _ rfl HN.out Try.underlying26 rfl Try.sizeReply) rfl ?_
        exact ⟨rfl, Ev.alloc _ _⟩
    · have hi : isC x = false := by simp only [isC, Bool.and_eq_false_iff, decide_eq_false_iff_not]; omega
      have HI := Lib.hid hi
      clear e e2 h hx hi hN hcl
      go_enter Try.func8, Try.ntmps8
      go_wp2_with (refine (HC.out _).mono ?_; rintro e w' ⟨rfl, rfl⟩; rw [HI.out])
      refine bodyPost_ret (results_ask rfl _ _ _ _ _ rfl HN.out Try.underlying26 rfl Try.sizeReply) rfl ?_
      exact ⟨rfl, Ev.alloc _ _⟩
  · obtain ⟨c, rfl⟩ : ∃ c : Nat, x = c := ⟨x.toNat, by omega⟩
    have hc : c < 16 := by omega
    have hi : isC (c : Int) = true := by simp [isC]; omega
    have HI := Lib.hid hi
    have hs1 : ¬ s < 1 := by omega
    have hs2 : ¬ 1073741824 < s := by omega
    have ek : askK T c s = if (T.getD c rq0).1 < s then 1 else if s = (T.getD c rq0).1 then 2 else 3 := by
      unfold askK
      rw [if_neg hx]
      rfl
    have er : askR T c s = if askK T c s = 2 then (T.getD c rq0).2 else rp0 := rfl
    have c0 := h.cell hc (i := 0) (by decide)
    have c1 := h.cell hc (i := 1) (by decide)
    have c2 := h.cell hc (i := 2) (by decide)
    have c3 := h.cell hc (i := 3) (by decide)
    generalize T.getD c rq0 = q at *
    obtain ⟨q0, q1, q2, q3⟩ := q
    simp only [qcells, List.getElem?_cons_zero, List.getElem?_cons_succ, Nat.add_zero] at c0 c1 c2 c3 ek er
    rw [er, ek]
    clear er ek h hx hi hN
    by_cases h1 : q0 < s
    · rw [if_pos h1]
      go_enter Try.func8, Try.ntmps8
      go_wp2_with (refine (HC.out _).mono ?_; rintro e w' ⟨rfl, rfl⟩; rw [HI.out])
      refine bodyPost_ret (results_ask rfl _ _ _ _ _ rfl (But.alloc (K := []) _ |>.heap HN.out (by simp)) Try.underlying26 rfl Try.sizeReply) rfl ?_
      exact ⟨rfl, (Ev.alloc _ _).trans (Ev.alloc _ _)⟩
    · rw [if_neg h1]
      by_cases h2 : s = q0
      · rw [if_pos h2]
        subst h2
        clear h1
        go_enter Try.func8, Try.ntmps8
        go_wp2_with (refine (HC.out _).mono ?_; rintro e w' ⟨rfl, rfl⟩; rw [HI.out])
        go_region
        go_wp2
        refine bodyPost_ret (results_ask rfl _ _ w.heap.size (rcells (q1, q2, q3)) _ rfl ?_ Try.underlying26 rfl Try.sizeReply) rfl ?_
        · exact (But.of_ev (K := []) ((Ev.alloc _ _).trans (Ev.drew _))).heap (heap_alloc_new w _) (by simp)
        · exact ⟨rfl, ((Ev.alloc _ _).trans (Ev.alloc _ _)).trans (Ev.drew _)⟩
      · rw [if_neg h2]
        have h3 : (s == q0) = false := beq_eq_false_iff_ne.2 h2
        go_enter Try.func8, Try.ntmps8
        go_wp2_with (refine (HC.out _).mono ?_; rintro e w' ⟨rfl, rfl⟩; rw [HI.out])
        refine bodyPost_ret (results_ask rfl _ _ _ _ _ rfl (But.alloc (K := []) _ |>.heap HN.out (by simp)) Try.underlying26 rfl Try.sizeReply) rfl ?_
        exact ⟨rfl, (Ev.alloc _ _).trans (Ev.alloc _ _)⟩

theorem tb_set {p : Nat} {T : List RQ} {w : World} (h : TbAt p T w) {c : Nat} (hc : c < 16) (q : RQ) :
    TbAt p (T.set c q) ((((w.setCell ⟨p, c * 4, none⟩ (.int .i64 q.1)).setCell ⟨p, c * 4 + 1, none⟩ (.int .i64 q.2.1)).setCell ⟨p, c * 4 + 2, none⟩ (.int .i64 q.2.2.1)).setCell ⟨p, c * 4 + 3, none⟩ (.string q.2.2.2)) := by
  have h2 := h.2
  refine ⟨?_, by simp [h2]⟩
  have h1 := set_heap (c * 4 + 3) (.string q.2.2.2) (set_heap (c * 4 + 2) (.int .i64 q.2.2.1) (set_heap (c * 4 + 1) (.int .i64 q.2.1) (set_heap (c * 4) (.int .i64 q.1) h.1)))
  rw [h1, ← tcells_set T c q (by omega)]
  simp [Nat.mul_comm]

set_option maxHeartbeats 3200000 in
theorem sess_done (p : Nat) (T : List RQ) (x s : Int) (r : RP) (w : World) (h : TbAt p T w) :
    Calls Try.prog 9 #[.pointer (some ⟨p, 0, none⟩), .int .i64 x, .int .i64 s, rv r] w fun e w' => e = .returned (.int .i64 (doneE T x s)) ∧ TbAt p (doneT T x s r) w' ∧ But [p] w w' := by
  have HC0 := fun w1 (h1 : TbAt p T w1) => sess_ask p T x s w1 h1
  generalize askR T x s = R at HC0
  obtain ⟨a0, a1, a2⟩ := R
  simp only [rv, rcells] at HC0
  have HT := Lib.hid h
  obtain ⟨r0, r1, r2⟩ := r
  have hlt := h.lt
  unfold rv rcells
  by_cases hk : askK T x s = 1
  · have e1 : doneE T x s = 0 := by unfold doneE; rw [if_pos hk]
    have e2 : doneT T x s (r0, r1, r2) = T.set x.toNat (s, r0, r1, r2) := by unfold doneT; rw [if_pos hk]
    rw [e1, e2]
    rw [hk] at HC0
    obtain ⟨c, rfl⟩ : ∃ c : Nat, x = c := ⟨x.toNat, by unfold askK at hk; split at hk <;> omega⟩
    have hc : c < 16 := by unfold askK at hk; split at hk <;> omega
    have HC := Lib.hid HC0
    clear e1 e2 hk h HC0
    go_enter Try.func9, Try.ntmps9
    go_wp2_with (refine (HC.out _ (HT.out.ev (Ev.alloc _ _))).mono ?_; rintro e w' ⟨rfl, hE⟩)
    have hE1 : Ev w (w'.alloc (.cells #[.int .i64 a0, .int .i64 a1, .string a2] 26)) := (Ev.alloc _ _).trans (hE.trans (Ev.alloc _ _))
    have hbox : (w'.alloc (.cells #[.int .i64 a0, .int .i64 a1, .string a2] 26)).heap[w.heap.size]? = some (.cells #[.int .i64 r0, .int .i64 r1, .string r2] 26 (0, 0)) :=
      (But.of_ev (K := []) (hE.trans (Ev.alloc _ _))).heap (heap_alloc_new w _) (by simp)
    generalize w'.alloc (.cells #[.int .i64 a0, .int .i64 a1, .string a2] 26) = w2 at *
    have hT2 := HT.out.ev hE1
    have b0 : w2.cell? ⟨w.heap.size, 0, none⟩ = some (.int .i64 r0) := by rw [Lib.cell_of_heap hbox]; rfl
    have b1 : w2.cell? ⟨w.heap.size, 1, none⟩ = some (.int .i64 r1) := by rw [Lib.cell_of_heap hbox]; rfl
    have b2 : w2.cell? ⟨w.heap.size, 2, none⟩ = some (.string r2) := by rw [Lib.cell_of_heap hbox]; rfl
    have c0 := hT2.cell hc (i := 0) (by decide)
    have c1 := hT2.cell hc (i := 1) (by decide)
    have c2 := hT2.cell hc (i := 2) (by decide)
    have c3 := hT2.cell hc (i := 3) (by decide)
    have f0 := hT2.f (c * 4)
    have f1 := hT2.f (c * 4 + 1)
    have f2 := hT2.f (c * 4 + 2)
    have f3 := hT2.f (c * 4 + 3)
    simp only [qcells, List.getElem?_cons_zero, List.getElem?_cons_succ, Nat.add_zero] at c0 c1 c2 c3
    have HT2 := Lib.hid hT2
    have HE1 := Lib.hid hE1
    clear hT2 hE1 hE hbox hlt
    go_region
    go_wp2
    go_ret
    refine ⟨rfl, (tb_set HT2.out hc (s, r0, r1, r2)).ev (Ev.drew _), ?_⟩
    exact (But.of_ev HE1.out).then ((((But.setCell ⟨p, c * 4, none⟩ _ (by simp)).then (But.setCell ⟨p, c * 4 + 1, none⟩ _ (by simp))).then (But.setCell ⟨p, c * 4 + 2, none⟩ _ (by simp))).then (But.setCell ⟨p, c * 4 + 3, none⟩ _ (by simp)) |>.then But.drew)
  · have e1 : doneE T x s = 1 := by unfold doneE; rw [if_neg hk]
    have e2 : doneT T x s (r0, r1, r2) = T := by unfold doneT; rw [if_neg hk]
    rw [e1, e2]
    generalize askK T x s = k at *
    have HC := Lib.hid HC0
    clear e1 e2 h HC0
    have hkb : (k == 1) = false := beq_eq_false_iff_ne.2 hk
    go_enter Try.func9, Try.ntmps9
    go_wp2_with (refine (HC.out _ (HT.out.ev (Ev.alloc _ _))).mono ?_; rintro e w' ⟨rfl, hE⟩)
    go_ret
    have hE1 : Ev w (w'.alloc (.cells #[.int .i64 a0, .int .i64 a1, .string a2] 26)) := (Ev.alloc _ _).trans (hE.trans (Ev.alloc _ _))
    exact ⟨rfl, HT.out.ev hE1, But.of_ev hE1⟩
end Go.Proofs.Ytdfoangkjeoomaa
