/-
  The document's own table of requests in memory, and its Ask and Done.
-/
import Derived.Test.YtdfoangkjeoomaaNd
import Derived.Deep.Cut
namespace Go.Proofs.Ytdfoangkjeoomaa
open Go.RowKit
set_option linter.unusedVariables false
set_option maxRecDepth 100000

def rcl (q : RQ) : List Value := [.int .i64 q.2.1, .int .i64 q.2.2.1, .string q.2.2.2]
def seqs (T : List RQ) : List Value := T.map fun q => .int .i64 q.1
def reps (T : List RQ) : List Value := T.flatMap rcl
def refc (T : List RQ) : List Value := seqs T ++ reps T
theorem seqs_length (T : List RQ) : (seqs T).length = T.length := by simp [seqs]
theorem reps_get : ∀ (T : List RQ) (c : Nat) (q : RQ) (i : Nat), T[c]? = some q → i < 3 → (reps T)[3 * c + i]? = (rcl q)[i]?
  | [], c, q, i, h, hi => by simp at h
  | x :: T, 0, q, i, h, hi => by
    simp at h; subst h
    simp only [reps, List.flatMap_cons]
    rw [List.getElem?_append_left (by simp [rcl]; omega)]
    simp
  | x :: T, c + 1, q, i, h, hi => by
    simp at h
    have := reps_get T c q i h hi
    simp only [reps, List.flatMap_cons] at *
    rw [List.getElem?_append_right (by simp [rcl]; omega)]
    have e : 3 * (c + 1) + i - (rcl x).length = 3 * c + i := by simp [rcl]; omega
    rw [e, this]
theorem reps_set : ∀ (T : List RQ) (c : Nat) (q : RQ), c < T.length → (((reps T).set (3 * c) (.int .i64 q.2.1)).set (3 * c + 1) (.int .i64 q.2.2.1)).set (3 * c + 2) (.string q.2.2.2) = reps (T.set c q)
  | [], c, q, h => by simp at h
  | x :: T, 0, q, h => by simp [reps, rcl]
  | x :: T, c + 1, q, h => by
    have := reps_set T c q (by simpa using h)
    simp only [reps, List.flatMap_cons, List.set_cons_succ] at *
    rw [← this]
    have e : 3 * (c + 1) = 3 * c + 3 := by omega
    rw [e]
    simp only [rcl, List.cons_append, List.nil_append, Nat.add_right_comm _ 3, List.set_cons_succ]
theorem refc_set {T : List RQ} {c : Nat} (q : RQ) (hT : T.length = 16) (hc : c < 16) :
    (((((refc T).set c (.int .i64 q.1)).set (16 + c * 3) (.int .i64 q.2.1)).set (16 + c * 3 + 1) (.int .i64 q.2.2.1)).set (16 + c * 3 + 2) (.string q.2.2.2)) = refc (T.set c q) := by
  have hl : ∀ v, ((seqs T).set c v).length = 16 := fun v => by simp [seqs, hT]
  have h1 := reps_set T c q (by omega)
  have e : (seqs T).set c (.int .i64 q.1) = seqs (T.set c q) := by simp [seqs, List.map_set]
  unfold refc
  rw [List.set_append_left _ _ (by simp [seqs, hT]; omega)]
  rw [List.set_append_right _ _ (by rw [hl]; omega), hl]
  rw [List.set_append_right _ _ (by rw [hl]; omega), hl]
  rw [List.set_append_right _ _ (by rw [hl]; omega), hl]
  rw [show 16 + c * 3 - 16 = 3 * c by omega, show 16 + c * 3 + 1 - 16 = 3 * c + 1 by omega, show 16 + c * 3 + 2 - 16 = 3 * c + 2 by omega, h1, e]

/-- Block p is the document's table T. -/
def RtAt (p : Nat) (T : List RQ) (w : World) : Prop := w.heap[p]? = some (.cells (refc T).toArray 41 (0, 0)) ∧ T.length = 16
theorem RtAt.lt {p : Nat} {T : List RQ} {w : World} (h : RtAt p T w) : p < w.heap.size := (Array.getElem?_eq_some_iff.1 h.1).1
theorem RtAt.but {K : List Nat} {p : Nat} {T : List RQ} {w w' : World} (h : RtAt p T w) (hb : But K w w') (hp : p ∉ K) : RtAt p T w' := ⟨hb.heap h.1 hp, h.2⟩
theorem RtAt.ev {p : Nat} {T : List RQ} {w w' : World} (h : RtAt p T w) (hb : Ev w w') : RtAt p T w' := h.but (But.of_ev (K := []) hb) (by simp)
theorem RtAt.f {p : Nat} {T : List RQ} {w : World} (h : RtAt p T w) (i : Nat) : w.frozen? ⟨p, i, none⟩ = false := Lib.frozen_of_heap h.1 i
theorem RtAt.seq {p : Nat} {T : List RQ} {w : World} (h : RtAt p T w) {c : Nat} (hc : c < 16) : w.cell? ⟨p, c, none⟩ = some (.int .i64 (T.getD c rq0).1) := by
  have h1 := h.2
  have hg : T[c]? = some (T.getD c rq0) := by simp [List.getD, show c < T.length by omega]
  rw [Lib.cell_of_heap h.1, List.getElem?_toArray, refc, List.getElem?_append_left (by rw [seqs_length]; omega)]
  unfold seqs
  rw [List.getElem?_map, hg]
  rfl
theorem RtAt.rep {p : Nat} {T : List RQ} {w : World} (h : RtAt p T w) {c : Nat} (hc : c < 16) {i : Nat} (hi : i < 3) : w.cell? ⟨p, 16 + c * 3 + i, none⟩ = (rcl (T.getD c rq0))[i]? := by
  have h1 := h.2
  have hg : T[c]? = some (T.getD c rq0) := by simp [List.getD, show c < T.length by omega]
  have := reps_get T c _ i hg hi
  rw [Lib.cell_of_heap h.1, List.getElem?_toArray, refc, List.getElem?_append_right (by rw [seqs_length]; omega), seqs_length, h1, show 16 + c * 3 + i - 16 = 3 * c + i by omega, this]
theorem RtAt.new (w : World) : RtAt w.heap.size newT (w.alloc (.cells (refc newT).toArray 41)) := ⟨heap_alloc_new w _, rfl⟩
theorem rt_set {p : Nat} {T : List RQ} {w : World} (h : RtAt p T w) {c : Nat} (hc : c < 16) (q : RQ) :
    RtAt p (T.set c q) ((((w.setCell ⟨p, c, none⟩ (.int .i64 q.1)).setCell ⟨p, 16 + c * 3, none⟩ (.int .i64 q.2.1)).setCell ⟨p, 16 + c * 3 + 1, none⟩ (.int .i64 q.2.2.1)).setCell ⟨p, 16 + c * 3 + 2, none⟩ (.string q.2.2.2)) := by
  have h2 := h.2
  refine ⟨?_, by simp [h2]⟩
  have h1 := set_heap (16 + c * 3 + 2) (.string q.2.2.2) (set_heap (16 + c * 3 + 1) (.int .i64 q.2.2.1) (set_heap (16 + c * 3) (.int .i64 q.2.1) (set_heap c (.int .i64 q.1) h.1)))
  rw [h1, ← refc_set q h2 hc]
  simp

set_option maxHeartbeats 3200000 in
theorem ref_ask (p : Nat) (T : List RQ) (x s : Int) (w : World) (h : RtAt p T w) :
    Calls Try.prog 14 #[.pointer (some ⟨p, 0, none⟩), .int .i64 x, .int .i64 s] w fun e w' => e = .returned (.tuple #[.int .i64 (askK T x s), rv (askR T x s)]) ∧ Ev w w' := by
  have hlt := h.lt
  have hN : (w.alloc (.cells (rcells rp0) 26)).heap[w.heap.size]? = some (.cells (rcells rp0) 26 (0, 0)) := heap_alloc_new w _
  have HN := Lib.hid hN
  by_cases hx : x < 0 ∨ 16 ≤ x ∨ s < 1 ∨ 1073741824 < s
  · have e : askK T x s = 0 := by unfold askK; rw [if_pos hx]
    have e2 : askR T x s = rp0 := by unfold askR; rw [e]; rfl
    rw [e, e2]
    have hs : x < 0 ∨ (¬ x < 0 ∧ 16 ≤ x) ∨ (¬ x < 0 ∧ ¬ 16 ≤ x ∧ s < 1) ∨ (¬ x < 0 ∧ ¬ 16 ≤ x ∧ ¬ s < 1 ∧ 1073741824 < s) := by omega
    clear e e2 h hx hN
    rcases hs with h1 | ⟨h1, h2⟩ | ⟨h1, h2, h3⟩ | ⟨h1, h2, h3, h4⟩
    all_goals
      go_enter Try.func14, Try.ntmps14
      go_wp2
      refine bodyPost_ret (results_ask rfl _ _ _ _ _ rfl HN.out Try.underlying26 rfl Try.sizeReply) rfl ?_
      exact ⟨rfl, Ev.alloc _ _⟩
  · obtain ⟨c, rfl⟩ : ∃ c : Nat, x = c := ⟨x.toNat, by omega⟩
    have hc : c < 16 := by omega
    have hx1 : ¬ (c : Int) < 0 := by omega
    have hx2 : ¬ 16 ≤ (c : Int) := by omega
    have hs1 : ¬ s < 1 := by omega
    have hs2 : ¬ 1073741824 < s := by omega
    have ek : askK T c s = if (T.getD c rq0).1 < s then 1 else if s = (T.getD c rq0).1 then 2 else 3 := by
      unfold askK
      rw [if_neg hx]
      rfl
    have er : askR T c s = if askK T c s = 2 then (T.getD c rq0).2 else rp0 := rfl
    have c0 := h.seq hc
    have c1 := h.rep hc (i := 0) (by decide)
    have c2 := h.rep hc (i := 1) (by decide)
    have c3 := h.rep hc (i := 2) (by decide)
    generalize T.getD c rq0 = q at *
    obtain ⟨q0, q1, q2, q3⟩ := q
    simp only [rcl, List.getElem?_cons_zero, List.getElem?_cons_succ, Nat.add_zero] at c0 c1 c2 c3 ek er
    rw [er, ek]
    clear er ek h hx hN
    by_cases h1 : q0 < s
    · rw [if_pos h1]
      go_enter Try.func14, Try.ntmps14
      go_wp2
      refine bodyPost_ret (results_ask rfl _ _ _ _ _ rfl HN.out Try.underlying26 rfl Try.sizeReply) rfl ?_
      exact ⟨rfl, Ev.alloc _ _⟩
    · rw [if_neg h1]
      by_cases h2 : s = q0
      · rw [if_pos h2]
        subst h2
        clear h1
        go_enter Try.func14, Try.ntmps14
        go_wp2
        go_region
        go_wp2
        refine bodyPost_ret (results_ask rfl _ _ w.heap.size (rcells (q1, q2, q3)) _ rfl ?_ Try.underlying26 rfl Try.sizeReply) rfl ?_
        · exact (But.of_ev (K := []) (Ev.drew _)).heap (heap_alloc_new w _) (by simp)
        · exact ⟨rfl, (Ev.alloc _ _).trans (Ev.drew _)⟩
      · rw [if_neg h2]
        have h3 : (s == q0) = false := beq_eq_false_iff_ne.2 h2
        go_enter Try.func14, Try.ntmps14
        go_wp2
        refine bodyPost_ret (results_ask rfl _ _ _ _ _ rfl HN.out Try.underlying26 rfl Try.sizeReply) rfl ?_
        exact ⟨rfl, Ev.alloc _ _⟩
set_option maxHeartbeats 3200000 in
theorem ref_done (p : Nat) (T : List RQ) (x s : Int) (r : RP) (w : World) (h : RtAt p T w) :
    Calls Try.prog 15 #[.pointer (some ⟨p, 0, none⟩), .int .i64 x, .int .i64 s, rv r] w fun e w' => e = .returned (.int .i64 (doneE T x s)) ∧ RtAt p (doneT T x s r) w' ∧ But [p] w w' := by
  have HC0 := fun w1 (h1 : RtAt p T w1) => ref_ask p T x s w1 h1
  generalize askR T x s = R at HC0
  obtain ⟨a0, a1, a2⟩ := R
  simp only [rv, rcells] at HC0
  have HT := Lib.hid h
  obtain ⟨r0, r1, r2⟩ := r
  have hlt := h.lt
  unfold rv rcells
  by_cases hk : askK T x s = 1
  · have e1 : doneE T x s = 0 := by unfold doneE; rw [if_pos hk]
    have e2 : doneT T x s (r0, r1, r2) = T.set x.toNat (s, r0, r1, r2) := by unfold doneT; rw [if_pos hk]
    rw [e1, e2]
    rw [hk] at HC0
    obtain ⟨c, rfl⟩ : ∃ c : Nat, x = c := ⟨x.toNat, by unfold askK at hk; split at hk <;> omega⟩
    have hc : c < 16 := by unfold askK at hk; split at hk <;> omega
    have HC := Lib.hid HC0
    clear e1 e2 hk h HC0
    go_enter Try.func15, Try.ntmps15
    go_upto_region 4 with ((with_reducible refine (HC.out _ (HT.out.ev (Ev.alloc _ _))).mono ?_); rintro e w' ⟨rfl, hE⟩)
    have hE1 : Ev w (w'.alloc (.cells #[.int .i64 a0, .int .i64 a1, .string a2] 26)) := (Ev.alloc _ _).trans (hE.trans (Ev.alloc _ _))
    have hbox : (w'.alloc (.cells #[.int .i64 a0, .int .i64 a1, .string a2] 26)).heap[w.heap.size]? = some (.cells #[.int .i64 r0, .int .i64 r1, .string r2] 26 (0, 0)) :=
      (But.of_ev (K := []) (hE.trans (Ev.alloc _ _))).heap (heap_alloc_new w _) (by simp)
    generalize w'.alloc (.cells #[.int .i64 a0, .int .i64 a1, .string a2] 26) = w2 at *
    have hT2 := HT.out.ev hE1
    have b0 : w2.cell? ⟨w.heap.size, 0, none⟩ = some (.int .i64 r0) := by rw [Lib.cell_of_heap hbox]; rfl
    have b1 : w2.cell? ⟨w.heap.size, 1, none⟩ = some (.int .i64 r1) := by rw [Lib.cell_of_heap hbox]; rfl
    have b2 : w2.cell? ⟨w.heap.size, 2, none⟩ = some (.string r2) := by rw [Lib.cell_of_heap hbox]; rfl
    have c0 := hT2.seq hc
    have c1 := hT2.rep hc (i := 0) (by decide)
    have c2 := hT2.rep hc (i := 1) (by decide)
    have c3 := hT2.rep hc (i := 2) (by decide)
    have f0 := hT2.f c
    have f1 := hT2.f (16 + c * 3)
    have f2 := hT2.f (16 + c * 3 + 1)
    have f3 := hT2.f (16 + c * 3 + 2)
    simp only [rcl, List.getElem?_cons_zero, List.getElem?_cons_succ, Nat.add_zero] at c0 c1 c2 c3
    have HT2 := Lib.hid hT2
    have HE1 := Lib.hid hE1
    have hne : w.heap.size ≠ p := by omega
    clear hT2 hE1 hE hbox hlt
    have n1 : (⟨p, c, none⟩ : Addr) ≠ ⟨p, 16 + c * 3, none⟩ := by intro e; injection e with _ e2 _; omega
    have n2 : (⟨p, c, none⟩ : Addr) ≠ ⟨p, 16 + c * 3 + 1, none⟩ := by intro e; injection e with _ e2 _; omega
    have n3 : (⟨p, c, none⟩ : Addr) ≠ ⟨p, 16 + c * 3 + 2, none⟩ := by intro e; injection e with _ e2 _; omega
    have d1 := (World.cell?_setCell_other (w := w2) (v := .int .i64 s) (h := n1) ..).trans c1
    have d2 := (World.cell?_setCell_other (w := w2) (v := .int .i64 s) (h := n2) ..).trans c2
    have d3 := (World.cell?_setCell_other (w := w2) (v := .int .i64 s) (h := n3) ..).trans c3
    have m0 : (⟨p, c, none⟩ : Addr) ≠ ⟨w.heap.size, 0, none⟩ := by intro e; injection e with e1 _ _; omega
    have m1 : (⟨p, c, none⟩ : Addr) ≠ ⟨w.heap.size, 1, none⟩ := by intro e; injection e with e1 _ _; omega
    have m2 : (⟨p, c, none⟩ : Addr) ≠ ⟨w.heap.size, 2, none⟩ := by intro e; injection e with e1 _ _; omega
    have e0 := (World.cell?_setCell_other (w := w2) (v := .int .i64 s) (h := m0) ..).trans b0
    have e1 := (World.cell?_setCell_other (w := w2) (v := .int .i64 s) (h := m1) ..).trans b1
    have e2 := (World.cell?_setCell_other (w := w2) (v := .int .i64 s) (h := m2) ..).trans b2
    have hP := set_heap c (.int .i64 s) HT2.out.1
    have g1 := Lib.frozen_of_heap hP (16 + c * 3)
    have g2 := Lib.frozen_of_heap hP (16 + c * 3 + 1)
    have g3 := Lib.frozen_of_heap hP (16 + c * 3 + 2)
    have HRS := Lib.hid (rt_set HT2.out hc (s, r0, r1, r2))
    clear n1 n2 n3 m0 m1 m2 b0 b1 b2 c1 c2 c3 f1 f2 f3 hP
    go_upto_region 5 with fail
    go_region
    go_wp2
    go_ret
    refine ⟨rfl, HRS.out.ev (Ev.drew _), ?_⟩
    exact (But.of_ev HE1.out).then ((((But.setCell ⟨p, c, none⟩ _ (by simp)).then (But.setCell ⟨p, 16 + c * 3, none⟩ _ (by simp))).then (But.setCell ⟨p, 16 + c * 3 + 1, none⟩ _ (by simp))).then (But.setCell ⟨p, 16 + c * 3 + 2, none⟩ _ (by simp)) |>.then But.drew)
  · have e1 : doneE T x s = 1 := by unfold doneE; rw [if_neg hk]
    have e2 : doneT T x s (r0, r1, r2) = T := by unfold doneT; rw [if_neg hk]
    rw [e1, e2]
    generalize askK T x s = k at *
    have HC := Lib.hid HC0
    clear e1 e2 h HC0
    have hkb : (k == 1) = false := beq_eq_false_iff_ne.2 hk
    go_enter Try.func15, Try.ntmps15
    go_wp2_with (refine (HC.out _ (HT.out.ev (Ev.alloc _ _))).mono ?_; rintro e w' ⟨rfl, hE⟩)
    go_ret
    have hE1 : Ev w (w'.alloc (.cells #[.int .i64 a0, .int .i64 a1, .string a2] 26)) := (Ev.alloc _ _).trans (hE.trans (Ev.alloc _ _))
    exact ⟨rfl, HT.out.ev hE1, But.of_ev hE1⟩
end Go.Proofs.Ytdfoangkjeoomaa
