/-
  The contracts of Same, Intact and Within.
-/
import Derived.Test.YtmhgpbohkdndpaaBook
namespace Go.Proofs.Ytmhgpbohkdndpaa
open Go.RowKit

theorem take_eq_succ {l m : List UInt8} {k : Nat} (hl : k < l.length) (hm : k < m.length) (h : l.take k = m.take k) (hx : l.getD k 0 = m.getD k 0) : l.take (k + 1) = m.take (k + 1) := by
  rw [List.take_succ_eq_append_getElem hl, List.take_succ_eq_append_getElem hm, h]
  simp [List.getD, hl, hm] at hx
  rw [hx]
theorem ne_of_getD {l m : List UInt8} {k : Nat} (hx : ¬ l.getD k 0 = m.getD k 0) : (l == m) = false := by
  rw [beq_eq_false_iff_ne]
  intro e
  exact hx (by rw [e])

set_option maxHeartbeats 400000 in
theorem same_any (A B : Option Addr) (n n' cap cap' : Nat) (l m : List UInt8) (w : World) (h : Bs w A n cap l) (h' : Bs w B n' cap' m) :
    Calls Try.prog 19 #[.slice A n cap, .slice B n' cap'] w fun e w' => e = .returned (.bool (l == m)) ∧ Ev w w' := by
  have hn := h.le
  have hm := h.max
  have hn' := h'.le
  have hm' := h'.max
  have HL := Lib.hid h.len
  have HM := Lib.hid h'.len
  by_cases hnn : n = n'
  · subst hnn
    go_enter Try.func19, Try.ntmps19
    go_wp2
    go_loopw [5] (fun i wr => ∃ k : Nat, k ≤ n ∧ i = .int .i64 k ∧ Hid (l.take k = m.take k) ∧ Ev w wr) (fun i _ => n - (intOf i).toNat)
    case atStart => exact ⟨0, Nat.zero_le _, rfl, Lib.hid (by simp), Ev.refl _⟩
    case round =>
      obtain ⟨k, hk, rfl, HT, hE⟩ := hrel
      by_cases hlt : k < n
      · have h1 := h.below hE
        have h2 := h'.below hE
        obtain ⟨b, off, rfl, hb, hc⟩ := h1.rd (by omega)
        obtain ⟨b', off', rfl, hb', hc'⟩ := h2.rd (by omega)
        have hck := hc k hlt
        have hck' := hc' k hlt
        have i1 : (0 : Int) ≤ (k : Int) := by omega
        have i2 : (k : Int) < (n : Int) := by omega
        by_cases hx : l.getD k 0 = m.getD k 0
        · have HT' := Lib.hid (take_eq_succ (by rw [HL.out]; exact hlt) (by rw [HM.out]; exact hlt) HT.out hx)
          rw [hx] at hck
          generalize m.getD k 0 = y at hck hck'
          clear hc hc' HT hx h1 h2
          go_wp2_with fail
          go_quiet (fail)
          go_wp2
          go_roundw
          case rel => exact ⟨k + 1, by omega, by go_num, HT', hE.trans (Ev.drewN _ _)⟩
          case measure => simp [intOf]; omega
        · have HF := Lib.hid (ne_of_getD hx)
          have hne : (((l.getD k 0).toNat : Int) != ((m.getD k 0).toNat : Int)) = true := by
            rw [bne_iff_ne]
            intro e
            exact hx (UInt8.toNat_inj.1 (by omega))
          generalize l.getD k 0 = x at hck hne
          generalize m.getD k 0 = y at hck' hne
          clear hc hc' HT hx h1 h2
          go_wp2_with fail
          go_quiet (fail)
          go_wp2
          go_ret
          exact ⟨by rw [HF.out]; rfl, hE.trans (Ev.drewN _ _)⟩
      · obtain rfl : k = n := by omega
        have HF : Hid ((l == m) = true) := by
          have := HT.out
          rw [List.take_of_length_le (by rw [HL.out]; exact Nat.le_refl _), List.take_of_length_le (by rw [HM.out]; exact Nat.le_refl _)] at this
          exact Lib.hid (beq_iff_eq.2 this)
        go_wp2
        go_ret
        exact ⟨by rw [HF.out]; rfl, hE⟩
  · have HF : Hid ((l == m) = false) := by
      refine Lib.hid (beq_eq_false_iff_ne.2 fun e => hnn ?_)
      rw [← HL.out, ← HM.out, e]
    have hne : ((n : Int) != (n' : Int)) = true := by
      rw [bne_iff_ne]
      omega
    clear h h'
    go_enter Try.func19, Try.ntmps19
    go_wp2
    go_ret
    exact ⟨by rw [HF.out]; rfl, Ev.refl _⟩

theorem ret_of_eq' {k : IntKind} {a b : Int} (h : a = b) : Ending.returned (.int k a) = .returned (.int k b) := by rw [h]
/-- 'Within', at bounds for which the sums do not wrap. -/
def within (n lo hi : Int) : Int := lo + (n % (hi - lo + 1))
theorem within_range {n lo hi : Int} (h : lo ≤ hi) : lo ≤ within n lo hi ∧ within n lo hi ≤ hi := by
  unfold within
  have h1 := Int.emod_nonneg n (show hi - lo + 1 ≠ 0 by omega)
  have h2 := Int.emod_lt_of_pos n (show 0 < hi - lo + 1 by omega)
  omega
theorem within_neg {n p : Int} (hp : 0 < p) (h : n.tmod p < 0) : n.tmod p + p = n % p := by
  have h1 := Int.emod_nonneg n (show p ≠ 0 by omega)
  have h2 := Int.emod_lt_of_pos n hp
  have h3 := Int.tmod_eq_emod (a := n) (b := p)
  rw [h3] at h ⊢
  split at h
  · omega
  · split
    · omega
    · rw [Int.natAbs_of_nonneg (by omega)]; omega
theorem within_pos {n p : Int} (hp : 0 < p) (h : ¬ n.tmod p < 0) : n.tmod p = n % p := by
  have h1 := Int.emod_nonneg n (show p ≠ 0 by omega)
  have h2 := Int.emod_lt_of_pos n hp
  have h3 := Int.tmod_eq_emod (a := n) (b := p)
  rw [h3] at h ⊢
  split at h
  · rw [if_pos ‹_›]; omega
  · rename_i hc
    rw [if_neg hc]
    rw [Int.natAbs_of_nonneg (by omega)] at h ⊢
    omega

set_option maxHeartbeats 400000 in
theorem within_any (n lo hi : Int) (w : World) (hn : (Lit.int .i64 n).wf = true) (h0 : 0 ≤ lo) (h1 : lo ≤ hi) (h2 : hi ≤ 4611686018427387903) :
    Calls Try.prog 16 #[.int .i64 n, .int .i64 lo, .int .i64 hi] w fun e w' => e = .returned (.int .i64 (within n lo hi)) ∧ w = w' := by
  have hb : -9223372036854775808 ≤ n ∧ n ≤ 9223372036854775807 := by simpa [Lit.wf, IntKind.min, IntKind.max, IntKind.signed, IntKind.bits] using hn
  obtain ⟨b1, b2⟩ := hb
  have hp : 0 < hi - lo + 1 := by omega
  have hne : ¬ hi - lo + 1 = 0 := by omega
  have m1 := Int.emod_nonneg n (show hi - lo + 1 ≠ 0 by omega)
  have m2 := Int.emod_lt_of_pos n hp
  by_cases hneg : n.tmod (hi - lo + 1) < 0
  · have HW := Lib.hid (within_neg hp hneg)
    have m3 : - (hi - lo + 1) ≤ n.tmod (hi - lo + 1) := by
      have := within_neg hp hneg
      omega
    clear hn
    go_enter Try.func16, Try.ntmps16
    go_wp2
    go_ret
    refine ⟨ret_of_eq' ?_, rfl⟩
    have := HW.out
    unfold within
    omega
  · have HW := Lib.hid (within_pos hp hneg)
    have m3 : n.tmod (hi - lo + 1) ≤ hi - lo := by
      have := within_pos hp hneg
      omega
    clear hn
    go_enter Try.func16, Try.ntmps16
    go_wp2
    go_ret
    refine ⟨ret_of_eq' ?_, rfl⟩
    have := HW.out
    unfold within
    omega

theorem roomy_take (l : List UInt8) (m : UInt8) : (roomy l m).take l.length = l := by simp [roomy]
theorem roomy_at (l : List UInt8) (m : UInt8) (k : Nat) (h1 : l.length ≤ k) (h2 : k < l.length + 80) : (roomy l m).getD k 0 = m := by
  unfold roomy
  simp only [List.getD]
  rw [List.getElem?_append_right h1, List.getElem?_replicate_of_lt (by omega)]
  rfl

set_option maxHeartbeats 400000 in
theorem intact_any (A B : Option Addr) (n n' cap cap' : Nat) (l : List UInt8) (m : UInt8) (w : World) (h : Bs w A n cap (roomy l m)) (h' : Bs w B n' cap' l) (hsz : n' ≤ 140737488355000) :
    Calls Try.prog 15 #[.slice A n cap, .slice B n' cap', .int .u8 (m.toNat : Int)] w fun e w' => e = .returned (.bool true) ∧ Ev w w' := by
  have hlen := h.len
  have hlen' := h'.len
  rw [roomy_length, hlen'] at hlen
  subst hlen
  have hn := h.le
  have hm := h.max
  have hto := h.to (show n' ≤ n' + 80 by omega)
  rw [show (roomy l m).take n' = l by rw [← hlen']; exact roomy_take l m] at hto
  have HL := Lib.hid hlen'
  clear hlen'
  go_enter Try.func15, Try.ntmps15
  go_wp2_with fail
  refine (same_any A B n' n' cap cap' l l w hto h').mono ?_
  rintro e w1 ⟨rfl, hE⟩
  rw [show (l == l) = true from by simp]
  have h1 := h.below hE
  clear h h' hto
  go_wp2
  go_loop [7] (fun i => ∃ k : Nat, n' ≤ k ∧ k ≤ n' + 80 ∧ i = .int .i64 k) (fun i => n' + 80 - (intOf i).toNat)
  case atStart => exact ⟨n', by omega, by omega, rfl⟩
  case round =>
    obtain ⟨k, hk0, hk, rfl⟩ := hrel
    by_cases hlt : k < n' + 80
    · obtain ⟨b, off, rfl, hb, hc⟩ := h1.rd (by omega)
      have hck := hc k hlt
      rw [roomy_at l m k (by rw [HL.out]; exact hk0) (by rw [HL.out]; exact hlt)] at hck
      clear hc
      go_wp2
      go_round
      case rel => exact ⟨k + 1, by omega, by omega, by go_num⟩
      case measure => simp [intOf]; omega
    · go_wp2
      go_ret
      exact ⟨rfl, hE⟩

end Go.Proofs.Ytmhgpbohkdndpaa
