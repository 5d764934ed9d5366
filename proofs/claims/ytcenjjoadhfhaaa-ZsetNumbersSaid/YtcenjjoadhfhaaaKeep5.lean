/-
  The book of memory: numbers, texts and rows of the laws' own; two rows held against one another.
-/
import Derived.Test.YtcenjjoadhfhaaaVrow
import Derived.Test.YtcenjjoadhfhaaaRowL
import Derived.Test.YtcenjjoadhfhaaaRefW
namespace Go.Proofs.Ytcenjjoadhfhaaa
open Go.RowKit
set_option linter.unusedVariables false

theorem keep_num (n : Int) (w : World) :
    Calls Try.prog 20 #[.int .i64 n] w fun e w' => e = .returned (vv 1 n ⟨#[]⟩) ∧ Ev w w' := by
  go_enter Try.func20, Try.ntmps20
  go_wp2
  refine bodyPost_ret (ret_val rfl _ _ w.heap.size 1 n ⟨#[]⟩ rfl (heap_alloc_new w _)) rfl ?_
  exact ⟨rfl, Ev.alloc _ _⟩
/-- The row of numbers. -/
def numV (x : Int) : V := (1, x, ⟨#[]⟩)
/-- The slice holds the numbers l (int64). -/
abbrev Is := Sl 1 (fun x : Int => [.int .i64 x])

set_option maxRecDepth 100000 in
set_option maxHeartbeats 1600000 in
theorem keep_nums {A : Option Addr} {n cap : Nat} {l : List Int} (w : World) (h : Is w A n cap l) (hn : n ≤ 1000) :
    Calls Try.prog 5 #[.slice A n cap] w fun e w' => ∃ v, e = .returned v ∧ Vrow w' v (l.map numV) ∧ (∀ g, v.ownBlock = some g → w.heap.size ≤ g) ∧ Ev w w' := by
  have hc := h.le
  have hm := h.max
  have HN := Lib.hid h.len
  go_enter Try.func5, Try.ntmps5
  go_wp2
  go_loopw [4, 3] (fun i v wr => ∃ k : Nat, k ≤ n ∧ i = .int .i64 (k : Int) ∧ Vrow wr v ((l.take k).map numV) ∧ (∀ g, v.ownBlock = some g → w.heap.size ≤ g) ∧ Ev w wr) (fun i _ _ => n - (intOf i).toNat)
  case atStart => exact ⟨0, Nat.zero_le _, rfl, Vrow.nil_ _, (by simp [Value.ownBlock]), Ev.refl _⟩
  case round =>
    obtain ⟨k, hk, rfl, hV, hg, hE⟩ := hrel
    by_cases hlt : k < n
    · obtain ⟨x, hx⟩ := h.at hlt
      obtain ⟨b, off, rfl, hb, hcl⟩ := (h.ev hE).rd (by omega)
      have c0 := hcl k x hx 0 _ rfl
      rw [Nat.mul_one, Nat.add_zero] at c0
      have HF : Hid ((l.take (k + 1)).map numV = (l.take k).map numV ++ [numV x]) := Lib.hid (by
        obtain ⟨hk2, rfl⟩ := List.getElem?_eq_some_iff.1 hx
        rw [List.take_succ_eq_append_getElem hk2, List.map_append]
        rfl)
      have hlen : ((l.take k).map numV).length ≤ 1000 := by simp; omega
      clear hx hcl
      have HM := Lib.hid (fun w1 => keep_num x w1)
      go_wp2_with (first | ((with_reducible refine (HM.out _).mono ?_); rintro y w2 ⟨rfl, hE2⟩; have hV2 := (hV.ev hE2).ev (Ev.alloc w2 (.cells #[.int .i64 1, .int .i64 x, .string ⟨#[]⟩] 50))) | (at_builtin; refine wpList_append_vals rfl (.tmp 11) (.tmp 17) rfl Try.underlying29 Try.infoVal u3 _ rfl hV2 (some ⟨w2.heap.size, 0, none⟩) 1 1 [(1, x, ⟨#[]⟩)] rfl (Vs.made_one w2 1 x ⟨#[]⟩) (by simp only [List.length_cons, List.length_nil]; omega) ?_; intro v4 w4 hv4 hb4 hs4; obtain ⟨A4, n4, cap4, rfl⟩ := hv4.form))
      go_roundw
      case rel =>
        refine ⟨k + 1, by omega, by go_num, HF.out ▸ hv4, hs4.ge (by have := hE.size; have := hE2.size; simp; omega) hg, ((hE.trans hE2).trans (Ev.alloc _ _)).rows hg hb4⟩
      case measure => simp [intOf]; omega
    · obtain rfl : k = n := by omega
      go_wp2
      go_ret
      rw [List.take_of_length_le (by rw [HN.out]; exact Nat.le_refl _)] at hV
      exact ⟨_, rfl, hV, hg, hE⟩

set_option maxRecDepth 100000 in
set_option maxHeartbeats 1600000 in
theorem keep_row {A B : Option Addr} {n m cap cap' : Nat} {a b : List V} (w : World) (h : Vs w A n cap a) (h' : Vs w B m cap' b) :
    Calls Try.prog 25 #[.slice A n cap, .slice B m cap'] w fun e w' => e = .returned (.bool (eqL a b)) ∧ Ev w w' := by
  have hn := h.le
  have hm := h.max
  have hn' := h'.le
  have hm' := h'.max
  have HL := Lib.hid h.len
  have HM := Lib.hid h'.len
  by_cases hnn : n = m
  · subst hnn
    go_enter Try.func25, Try.ntmps25
    go_wp2
    go_loopw [5] (fun i wr => ∃ k : Nat, k ≤ n ∧ i = .int .i64 k ∧ Hid (a.take k = b.take k) ∧ Ev w wr) (fun i _ => n - (intOf i).toNat)
    case atStart => exact ⟨0, Nat.zero_le _, rfl, Lib.hid (by simp), Ev.refl _⟩
    case round =>
      obtain ⟨k, hk, rfl, HT, hE⟩ := hrel
      by_cases hlt : k < n
      · obtain ⟨b1, off, ⟨xk, xn, xs⟩, rfl, hb, hx, c0, c1, c2⟩ := (h.ev hE).vcell hlt
        obtain ⟨b2, off', ⟨yk, yn, ys⟩, rfl, hb', hy, d0, d1, d2⟩ := (h'.ev hE).vcell hlt
        have i1 : (0 : Int) ≤ (k : Int) := by omega
        have i2 : (k : Int) < (n : Int) := by omega
        simp only at c0 c1 c2 d0 d1 d2
        have HX := Lib.hid hx
        have HY := Lib.hid hy
        clear hx hy h h'
        go_wp2_with fail
        refine wp_region_quiet_lit (by kernel_rfl) (by kernel_rfl) ?_
        repeat (quiet_step (fail))
        refine BigFrame.wpQuiet_want rfl fun K hK => quiet_neq_val rfl rfl rfl (hK _ ?_)
        refine wpQuiet_nil ?_
        rintro _ ⟨nq, rfl⟩
        by_cases hxy : (xk, xn, xs) = (yk, yn, ys)
        · have HT' : Hid (a.take (k + 1) = b.take (k + 1)) := Lib.hid (take_step HT.out HX.out (hxy ▸ HY.out))
          rw [(sameV_dec (xk, xn, xs) (yk, yn, ys)).trans (decide_eq_true hxy)]
          clear HX HY HT hxy
          go_wp2
          go_roundw
          case rel => exact ⟨k + 1, by omega, by go_num, HT', hE.trans (Ev.drewN _ _)⟩
          case measure => simp [intOf]; omega
        · have HF := Lib.hid (ne_at HX.out HY.out hxy)
          rw [(sameV_dec (xk, xn, xs) (yk, yn, ys)).trans (decide_eq_false hxy)]
          clear HX HY HT hxy
          go_wp2
          go_ret
          exact ⟨by rw [eqL, decide_eq_false HF.out]; rfl, hE.trans (Ev.drewN _ _)⟩
      · obtain rfl : k = n := by omega
        have HF := Lib.hid (eq_end HT.out HL.out.symm HM.out.symm)
        go_wp2
        go_ret
        exact ⟨by rw [eqL, decide_eq_true HF.out]; rfl, hE⟩
  · go_enter Try.func25, Try.ntmps25
    have hne : ¬ (n : Int) = (m : Int) := by omega
    have HF : Hid (a ≠ b) := Lib.hid (fun e => hnn (by rw [← HL.out, ← HM.out, e]))
    go_wp2
    go_ret
    exact ⟨by rw [eqL, decide_eq_false HF.out]; rfl, Ev.refl _⟩
end Go.Proofs.Ytcenjjoadhfhaaa
