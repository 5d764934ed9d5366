/-
  Package sexp: whole, judge.
-/
import Derived.Test.YtjffppfgappikaaSg
namespace Go.Proofs.Ytjffppfgappikaa
open Go.RowKit
set_option linter.unusedVariables false

theorem Try.sizeTree : (Try.prog.info? 24).map (·.size) = some 5 := by kernel_rfl
theorem results_cell2 {P : Program} {fn : Func} {p u1 u2 : Tmp} {ty : TypeId} (h : fn.results = #[.cell p ty, .tmp u1, .tmp u2]) (tmps : Array Value) (w : World) (g : Nat) (t : TypeId) (cs : Array Value) (fr : Nat × Nat) (d : TypeDesc)
    (hp : tmps.getD p undef = .pointer (some ⟨g, 0, none⟩)) (hg : w.heap[g]? = some (.cells cs t fr))
    (hu : P.underlying ty = some d) (hd : (match d with | .struct _ | .array _ _ => true | _ => false) = true) (hi : (P.info? ty).map (·.size) = some cs.size) :
    (results fn tmps).run P w = .ok (.tuple #[.agg cs, tmps.getD u1 undef, tmps.getD u2 undef]) w := by
  have hp' : tmps[p]?.getD undef = .pointer (some ⟨g, 0, none⟩) := by simpa using hp
  simp [results, h, hp', asAddr, run_loadVar_row w g t ty cs fr d hg hu hd hi]
/-- A tree in its own box. -/
def mraw (k n p : Int) (s : ByteArray) (v : Value) : Array Value := #[.int .i64 k, .string s, .int .i64 n, v, .int .i64 p]
theorem ret_tree2 {fn : Func} {p u1 u2 : Tmp} (h : fn.results = #[.cell p 24, .tmp u1, .tmp u2]) (tmps : Array Value) (w : World) (g : Nat) (k n q : Int) (s : ByteArray) (v : Value)
    (hp : tmps.getD p undef = .pointer (some ⟨g, 0, none⟩)) (hg : w.heap[g]? = some (.cells (mraw k n q s v) 24 (0, 0))) :
    (results fn tmps).run Try.prog w = .ok (.tuple #[.agg (mraw k n q s v), tmps.getD u1 undef, tmps.getD u2 undef]) w :=
  results_cell2 h tmps w g 24 _ _ _ hp hg Try.underlying24 rfl Try.sizeTree
def mzero : M := .mk 0 [] 0 none 0 [] 0
theorem Lies.zero (b0 : Nat) (K : List Nat) (w : World) : Lies b0 K w mzero := .mk (Sl.nil_ w) (fun _ h => by cases h) (fun _ h => by cases h)

set_option maxRecDepth 100000 in
set_option maxHeartbeats 1600000 in
theorem sx_whole {base : Nat} {v : Value} {os : List M} (w : World) (h : Opn base w v os) (h0 : os ≠ []) (pos : Nat) :
    Calls Try.prog 10 #[v, .int .i64 (pos : Int)] w fun e w' => ∃ m : M, e = .returned (.tuple #[mv m, .int .i64 (sxWhole (os.map M.t) pos).2.1, .int .i64 ((sxWhole (os.map M.t) pos).2.2 : Int)]) ∧ m.t = (sxWhole (os.map M.t) pos).1 ∧ Lies base (blk v os) w' m ∧ Ev w w' := by
  have HC := fun w1 (h1 : Opn base w1 v os) => sx_isComplete w1 h1 h0
  have hL : ∀ e ∈ os, ∀ m ∈ e.kids, Lies base (blk v os) w m := h.lies
  generalize hK : blk v os = K at *
  obtain ⟨g, cap, rfl, hle, hmx, _, hg, _, hc⟩ := h.at h0
  cases os with
  | nil => exact absurd rfl h0
  | cons e os =>
    have hke := own_ms (h.kid e (List.mem_cons_self ..))
    obtain ⟨_, _, _, c3, _⟩ := hc 0 e rfl
    have hLe := hL e (List.mem_cons_self ..)
    have hE0 : Ev w (w.alloc (.cells #[.int .i64 0, .string ⟨#[]⟩, .int .i64 0, .slice none 0 0, .int .i64 0] 24)) := Ev.alloc _ _
    have HC := Lib.hid (HC _ (h.ev hE0))
    obtain ⟨q, hq⟩ : ∃ q, q = (e :: os).length := ⟨_, rfl⟩
    have hq1 : 1 ≤ q := by rw [hq]; simp
    rw [← hq] at hle HC ⊢
    unfold M.kv at c3
    simp only [Nat.zero_mul, Nat.zero_add] at c3
    cases hkd : e.kids with
    | nil =>
      have e1 : sxDone ((e :: os).map M.t) = false := by simp [sxDone, M.t_kids, hkd]
      have e2 : sxWhole ((e :: os).map M.t) pos = (sxZero, 10, pos) := by simp [sxWhole, M.t_kids, hkd]
      rw [e2]
      rw [e1] at HC
      clear e1 e2 hc hL hLe hke h hkd c3 hq
      go_enter Try.func10, Try.ntmps10
      go_wp2_with (first | ((with_reducible refine HC.out.mono ?_); rintro x w1 ⟨rfl, rfl⟩))
      refine bodyPost_ret (ret_tree2 rfl _ _ w.heap.size 0 0 0 ⟨#[]⟩ (.slice none 0 0) rfl (heap_alloc_new w _)) rfl ?_
      exact ⟨mzero, rfl, by simp [mzero, M.t, M.ts, sxZero], Lies.zero _ _ _, hE0⟩
    | cons k0 ks =>
      have e1 : sxDone ((e :: os).map M.t) = true := by simp [sxDone, M.t_kids, hkd]
      have e2 : sxWhole ((e :: os).map M.t) pos = (k0.t, 0, 0) := by simp [sxWhole, M.t_kids, hkd]
      rw [e2]
      rw [e1] at HC
      have hlk := hLe k0 (by rw [hkd]; exact List.mem_cons_self ..)
      rw [hkd] at hke c3
      obtain ⟨b, off, hA, hb, d0, d1, d2, d3, d4⟩ := hke.cell (i := 0) (x := k0) rfl
      rw [hA] at c3
      have hn1 : 1 ≤ (k0 :: ks).length := by simp
      have hn2 := hke.le
      have hn3 := hke.max
      generalize (k0 :: ks).length = n at *
      simp only [Nat.zero_mul, Nat.add_zero] at d0 d1 d2 d3 d4
      clear e1 e2 hc hL hLe hke h hkd hq
      obtain ⟨kk, ks', kn, kA, kc, kl, kp⟩ := k0
      simp only [M.kind, M.s, M.n, M.kv, M.A, M.kids, M.cap, M.pos] at d0 d1 d2 d3 d4
      go_enter Try.func10, Try.ntmps10
      go_wp2_with (first | ((with_reducible refine HC.out.mono ?_); rintro x w1 ⟨rfl, rfl⟩))
      refine bodyPost_ret (ret_tree2 rfl _ _ w.heap.size kk kn kp ⟨ks'.toArray⟩ (.slice kA kl.length kc) rfl (heap_alloc_new w _)) rfl ?_
      exact ⟨.mk kk ks' kn kA kc kl kp, rfl, rfl, hlk.ev (Ev.alloc _ _), Ev.alloc _ _⟩

def sxJudgeB (D : Bool) (q : Nat) (x : Tk) : Int × Nat :=
  if !(x.why == 0) && !(D && decide (0 < x.fault)) then (x.why, x.fault)
  else if x.kind == -1 && q == 1 then (12, 0)
  else if !(x.kind == -1) && D then (11, 0)
  else if x.kind == 1 && decide (12 < q) then (14, 0)
  else (0, 0)
theorem sxJudge_b (os : List T) (x : Tk) : sxJudge os x = sxJudgeB (sxDone os) os.length x := rfl

set_option maxRecDepth 100000 in
set_option maxHeartbeats 4000000 in
theorem sx_judge {base : Nat} {v : Value} {os : List M} (w : World) (h : Opn base w v os) (h0 : os ≠ []) (x : Tk) :
    Calls Try.prog 12 #[v, tkv x] w fun e w' => e = .returned (.tuple #[.int .i64 (sxJudge (os.map M.t) x).1, .int .i64 ((sxJudge (os.map M.t) x).2 : Int)]) ∧ Ev w w' := by
  have hE0 : Ev w (w.alloc (.cells (tkc x) 36)) := Ev.alloc _ _
  have HC := sx_isComplete _ (h.ev hE0) h0
  obtain ⟨g, cap, rfl, hle, hmx, _, hg, _, hc⟩ := h.at h0
  rw [sxJudge_b, List.length_map]
  have hq1 : 1 ≤ os.length := by
    cases os with
    | nil => exact absurd rfl h0
    | cons e os => simp
  generalize os.length = q at *
  generalize sxDone (os.map M.t) = D at *
  obtain ⟨J, hJ⟩ : ∃ J, J = sxJudgeB D q x := ⟨_, rfl⟩
  rw [← hJ]
  obtain ⟨k, xs, n, z, y, f⟩ := x
  unfold tkv tkc at *
  simp only at HC hE0
  have HC := Lib.hid HC
  clear hc h
  by_cases hy : y = 0
  · subst hy
    cases D
    · by_cases hk : k = -1
      · subst hk
        by_cases hq : q = 1
        · subst hq
          · have HJ : Hid (J = (12, 0)) := Lib.hid (by rw [hJ]; simp [sxJudgeB])
            clear hJ
            go_enter Try.func12, Try.ntmps12
            go_wp2_with (first | ((with_reducible refine HC.out.mono ?_); rintro x w1 ⟨rfl, rfl⟩))
            go_ret2
            rw [HJ.out]
            exact ⟨rfl, hE0⟩
        · have q1 : ¬ ((q : Int) = 1) := by omega
          have q1' : ((q : Int) == 1) = false := beq_eq_false_iff_ne.2 q1
          · have HJ : Hid (J = (0, 0)) := Lib.hid (by rw [hJ]; simp [sxJudgeB, hq])
            clear hJ
            go_enter Try.func12, Try.ntmps12
            go_wp2_with (first | ((with_reducible refine HC.out.mono ?_); rintro x w1 ⟨rfl, rfl⟩))
            go_ret2
            rw [HJ.out]
            exact ⟨rfl, hE0⟩
      · have hk' : (k == -1) = false := beq_eq_false_iff_ne.2 hk
        have hk'' : (k != -1) = true := bne_iff_ne.2 hk
        by_cases k1 : k = 1
        · subst k1
          by_cases q12 : 12 < q
          · have q2 : (12 : Int) < (q : Int) := by omega
            · have HJ : Hid (J = (14, 0)) := Lib.hid (by rw [hJ]; simp [sxJudgeB, q12])
              clear hJ
              go_enter Try.func12, Try.ntmps12
              go_wp2_with (first | ((with_reducible refine HC.out.mono ?_); rintro x w1 ⟨rfl, rfl⟩))
              go_ret2
              rw [HJ.out]
              exact ⟨rfl, hE0⟩
          · have q2 : ¬ ((12 : Int) < (q : Int)) := by omega
            · have HJ : Hid (J = (0, 0)) := Lib.hid (by rw [hJ]; simp [sxJudgeB, q12])
              clear hJ
              go_enter Try.func12, Try.ntmps12
              go_wp2_with (first | ((with_reducible refine HC.out.mono ?_); rintro x w1 ⟨rfl, rfl⟩))
              go_ret2
              rw [HJ.out]
              exact ⟨rfl, hE0⟩
        · have k1' : (k == 1) = false := beq_eq_false_iff_ne.2 k1
          · have HJ : Hid (J = (0, 0)) := Lib.hid (by rw [hJ]; simp [sxJudgeB, hk, k1])
            clear hJ
            go_enter Try.func12, Try.ntmps12
            go_wp2_with (first | ((with_reducible refine HC.out.mono ?_); rintro x w1 ⟨rfl, rfl⟩))
            go_ret2
            rw [HJ.out]
            exact ⟨rfl, hE0⟩
    · by_cases hk : k = -1
      · subst hk
        by_cases hq : q = 1
        · subst hq
          · have HJ : Hid (J = (12, 0)) := Lib.hid (by rw [hJ]; simp [sxJudgeB])
            clear hJ
            go_enter Try.func12, Try.ntmps12
            go_wp2_with (first | ((with_reducible refine HC.out.mono ?_); rintro x w1 ⟨rfl, rfl⟩))
            go_ret2
            rw [HJ.out]
            exact ⟨rfl, hE0⟩
        · have q1 : ¬ ((q : Int) = 1) := by omega
          have q1' : ((q : Int) == 1) = false := beq_eq_false_iff_ne.2 q1
          · have HJ : Hid (J = (0, 0)) := Lib.hid (by rw [hJ]; simp [sxJudgeB, hq])
            clear hJ
            go_enter Try.func12, Try.ntmps12
            go_wp2_with (first | ((with_reducible refine HC.out.mono ?_); rintro x w1 ⟨rfl, rfl⟩))
            go_ret2
            rw [HJ.out]
            exact ⟨rfl, hE0⟩
      · have hk' : (k == -1) = false := beq_eq_false_iff_ne.2 hk
        have hk'' : (k != -1) = true := bne_iff_ne.2 hk
        · have HJ : Hid (J = (11, 0)) := Lib.hid (by rw [hJ]; simp [sxJudgeB, hk])
          clear hJ
          go_enter Try.func12, Try.ntmps12
          go_wp2_with (first | ((with_reducible refine HC.out.mono ?_); rintro x w1 ⟨rfl, rfl⟩))
          go_ret2
          rw [HJ.out]
          exact ⟨rfl, hE0⟩
  · have hy' : (y == 0) = false := beq_eq_false_iff_ne.2 hy
    have hy'' : (y != 0) = true := bne_iff_ne.2 hy
    cases D
    · have HJ : Hid (J = (y, f)) := Lib.hid (by rw [hJ]; simp [sxJudgeB, hy])
      clear hJ
      go_enter Try.func12, Try.ntmps12
      go_wp2_with (first | ((with_reducible refine HC.out.mono ?_); rintro x w1 ⟨rfl, rfl⟩))
      go_quiet (fail)
      go_wp2
      go_ret2
      rw [HJ.out]
      exact ⟨rfl, hE0.trans (Ev.drewN _ _)⟩
    · by_cases hf : 0 < f
      · have hf1 : decide (0 < f) = true := decide_eq_true hf
        · by_cases hk : k = -1
          · subst hk
            by_cases hq : q = 1
            · subst hq
              · have HJ : Hid (J = (12, 0)) := Lib.hid (by rw [hJ]; simp [sxJudgeB, hf])
                clear hJ
                go_enter Try.func12, Try.ntmps12
                go_wp2_with (first | ((with_reducible refine HC.out.mono ?_); rintro x w1 ⟨rfl, rfl⟩))
                go_ret2
                rw [HJ.out]
                exact ⟨rfl, hE0⟩
            · have q1 : ¬ ((q : Int) = 1) := by omega
              have q1' : ((q : Int) == 1) = false := beq_eq_false_iff_ne.2 q1
              · have HJ : Hid (J = (0, 0)) := Lib.hid (by rw [hJ]; simp [sxJudgeB, hf, hq])
                clear hJ
                go_enter Try.func12, Try.ntmps12
                go_wp2_with (first | ((with_reducible refine HC.out.mono ?_); rintro x w1 ⟨rfl, rfl⟩))
                go_ret2
                rw [HJ.out]
                exact ⟨rfl, hE0⟩
          · have hk' : (k == -1) = false := beq_eq_false_iff_ne.2 hk
            have hk'' : (k != -1) = true := bne_iff_ne.2 hk
            · have HJ : Hid (J = (11, 0)) := Lib.hid (by rw [hJ]; simp [sxJudgeB, hf, hk])
              clear hJ
              go_enter Try.func12, Try.ntmps12
              go_wp2_with (first | ((with_reducible refine HC.out.mono ?_); rintro x w1 ⟨rfl, rfl⟩))
              go_ret2
              rw [HJ.out]
              exact ⟨rfl, hE0⟩
      · have hf1 : decide (0 < f) = false := decide_eq_false hf
        · have HJ : Hid (J = (y, f)) := Lib.hid (by rw [hJ]; simp [sxJudgeB, hy, hf])
          clear hJ
          go_enter Try.func12, Try.ntmps12
          go_wp2_with (first | ((with_reducible refine HC.out.mono ?_); rintro x w1 ⟨rfl, rfl⟩))
          go_quiet (fail)
          go_wp2
          go_ret2
          rw [HJ.out]
          exact ⟨rfl, hE0.trans (Ev.drewN _ _)⟩
end Go.Proofs.Ytjffppfgappikaa
