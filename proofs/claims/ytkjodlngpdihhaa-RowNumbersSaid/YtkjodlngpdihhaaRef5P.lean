/-
  The document's own Put and Get (chapter 5).
-/
import Derived.Test.YtkjodlngpdihhaaVrow
import Derived.Test.YtkjodlngpdihhaaRefGt
import Derived.Test.YtkjodlngpdihhaaRowP
namespace Go.Proofs.Ytkjodlngpdihhaa
open Go.RowKit
set_option linter.unusedVariables false

set_option maxRecDepth 100000 in
set_option maxHeartbeats 1600000 in
theorem ref_put_on (A : Option Addr) (m cap : Nat) (l : List UInt8) (k n : Int) (s : ByteArray) (w : World) (h : Bs w A m cap l) (h0 : -9223372036854775808 ≤ n) (h1 : n ≤ 9223372036854775807) (hs : m + s.size + 100 ≤ 140737488355328) :
    Calls Try.prog 47 #[.slice A m cap, vv k n s] w (GivesRow (l ++ putV k n s) w) := by
  obtain ⟨w0, hw0⟩ : ∃ w0, w0 = w.alloc (.cells #[.int .i64 k, .int .i64 n, .string s] 61) := ⟨_, rfl⟩
  have B : Boxed w.heap.size k n s w0 := hw0 ▸ Boxed.new k n s w
  have hE0 : Ev w w0 := hw0 ▸ Ev.alloc w _
  have HC := Lib.hid (ref_byte A m cap l k w0 (h.below hE0) (by omega))
  have hl1 : (l ++ le 1 (low k)).length = m + 1 := by rw [List.length_append, le_length, h.len]
  have HL := Lib.hid (fun A cap w (h : Bs w A (m + 1) cap (l ++ le 1 (low k))) => ref_long A (m + 1) cap _ n w h (by omega) h0 h1)
  have HT := Lib.hid (fun A cap w (h : Bs w A (m + 1) cap (l ++ le 1 (low k))) => ref_text A (m + 1) cap _ s w h (by omega))
  have HL1 := Lib.hid hl1
  clear hl1
  by_cases hk : k = 1
  · have hp : l ++ putV k n s = l ++ le 1 (low k) ++ le 8 (low n) := by simp [putV, hk]
    rw [hp]
    clear hp
    subst hk
    go_enter Try.func47, Try.ntmps47
    go_wp2_with (first | (rw [← hw0]; (with_reducible refine HC.out.mono ?_); rintro y w1 ⟨v1, rfl, hr1, hg1, hE1⟩; have B1 := B.ev hE1; have c0 := B1.c0; have c1 := B1.c1; obtain ⟨A1, cap1, rfl, hB1, _⟩ := hr1.bs; rw [HL1.out] at hB1 ⊢) | ((with_reducible refine (HL.out _ _ w1 hB1).mono ?_); rintro y w2 ⟨v2, rfl, hr2, hg2, hE2⟩; obtain ⟨A2, n2, cap2, rfl⟩ := hr2.form))
    go_ret
    exact ⟨_, rfl, hr2, fun g hg => Nat.le_trans (hE0.trans hE1).size (hg2 g hg), (hE0.trans hE1).trans hE2⟩
  · have hp : l ++ putV k n s = l ++ le 1 (low k) ++ textBytes s.data.toList := by simp [putV, hk]
    rw [hp]
    clear hp
    go_enter Try.func47, Try.ntmps47
    go_wp2_with (first | (rw [← hw0]; (with_reducible refine HC.out.mono ?_); rintro y w1 ⟨v1, rfl, hr1, hg1, hE1⟩; have B1 := B.ev hE1; have c0 := B1.c0; have c2 := B1.c2; obtain ⟨A1, cap1, rfl, hB1, _⟩ := hr1.bs; rw [HL1.out] at hB1 ⊢) | ((with_reducible refine (HT.out _ _ w1 hB1).mono ?_); rintro y w2 ⟨v2, rfl, hr2, hg2, hE2⟩; obtain ⟨A2, n2, cap2, rfl⟩ := hr2.form))
    go_ret
    exact ⟨_, rfl, hr2, fun g hg => Nat.le_trans (hE0.trans hE1).size (hg2 g hg), (hE0.trans hE1).trans hE2⟩

/-- The numbers of a row fit an int64. -/
def okN (l : List V) : Prop := ∀ x ∈ l, -9223372036854775808 ≤ x.2.1 ∧ x.2.1 ≤ 9223372036854775807

set_option maxRecDepth 100000 in
set_option maxHeartbeats 4000000 in
theorem ref5_put {A : Option Addr} {n cap : Nat} {r : List V} (A0 : Option Addr) (n0 cap0 : Nat) (l : List UInt8) (w : World) (h : Bs w A0 n0 cap0 l) (hr : Vs w A n cap r) (hN : okN r) (hl : n0 + sizeR r + 200 ≤ 140737488355328) :
    Calls Try.prog 23 #[.slice A0 n0 cap0, .slice A n cap] w (GivesRow (l ++ putR r) w) := by
  have hn := hr.le
  have hm := hr.max
  have HN := Lib.hid hr.len
  have HL := Lib.hid h.len
  have HNN := Lib.hid hN
  have HC := Lib.hid (ref_byte A0 n0 cap0 l (n : Int) w h (by omega))
  clear hN
  go_enter Try.func23, Try.ntmps23
  go_wp2_with (first | ((with_reducible refine HC.out.mono ?_); rintro x w1 ⟨v1, rfl, hr1, hg1, hE1⟩; obtain ⟨A1, n1, cap1, rfl⟩ := hr1.form))
  go_loopw [5, 0] (fun i v wr => ∃ k : Nat, k ≤ n ∧ i = .int .i64 (k : Int) ∧ Row wr v (l ++ (le 1 (low (n : Int)) ++ (r.take k).flatMap putVV)) ∧ (∀ g, v.ownBlock = some g → w.heap.size ≤ g) ∧ Ev w wr) (fun i _ _ => n - (intOf i).toNat)
  case atStart => exact ⟨0, Nat.zero_le _, rfl, by simpa using hr1, hg1, hE1⟩
  case round =>
    obtain ⟨k, hk, rfl, hR, hg, hE⟩ := hrel
    obtain ⟨A2, cap2, rfl, hB2, _⟩ := hR.bs
    by_cases hlt : k < n
    · obtain ⟨b, off, ⟨xk, xn, xs⟩, rfl, hb, hx, c0, c1, c2⟩ := (hr.ev hE).vcell hlt
      simp only at c0 c1 c2
      have hs1 := sizeR_take r k _ hx
      have hs2 := flat_put_le (r.take k)
      have hrg := HNN.out _ (List.mem_of_getElem? hx)
      simp only at hs1 hrg
      have HF := Lib.hid (flat_take hx)
      clear hx
      obtain ⟨m, hmm⟩ : ∃ m, l ++ (le 1 (low (n : Int)) ++ (r.take k).flatMap putVV) = m := ⟨_, rfl⟩
      have hml : m.length + xs.size + 100 ≤ 140737488355328 := by
        rw [← hmm, List.length_append, List.length_append, le_length, HL.out]
        omega
      rw [hmm] at hB2 hR ⊢
      have HMM := Lib.hid hmm
      generalize hq : m.length = q at *
      have HP := Lib.hid (ref_put_on A2 q cap2 m xk xn xs wr hB2 hrg.1 hrg.2 hml)
      clear hmm hml hs1 hs2 hrg hq
      go_wp2_with (first | ((with_reducible refine HP.out.mono ?_); rintro x w2 ⟨v2, rfl, hr2, hg2, hE2⟩; obtain ⟨A3, n3, cap3, rfl⟩ := hr2.form))
      go_roundw
      case rel =>
        refine ⟨k + 1, by omega, by go_num, ?_, fun g hg => Nat.le_trans hE.size (hg2 g hg), hE.trans hE2⟩
        rw [HF.out, ← List.append_assoc, ← List.append_assoc, List.append_assoc l, HMM.out]
        exact hr2
      case measure => simp [intOf]; omega
    · obtain rfl : k = n := by omega
      have HF : Hid (l ++ (le 1 (low (k : Int)) ++ (r.take k).flatMap putVV) = l ++ putR r) := Lib.hid (by
        rw [List.take_of_length_le (by rw [HN.out]; exact Nat.le_refl _)]
        unfold putR
        rw [HN.out])
      go_wp2
      go_ret
      exact ⟨_, rfl, HF.out ▸ hR, hg, hE⟩

theorem rdText_le (L : List UInt8) (why pos most : Nat) : (rdText L why pos most).1.length ≤ most := by
  unfold rdText
  simp only
  by_cases h : most < leVal (rdTake L why pos 2).1
  · rw [if_pos h]
    have h0 : rdLeft L (rdStop (rdTake L why pos 2).2.1 (rdTake L why pos 2).2.2 3 pos).1 (rdStop (rdTake L why pos 2).2.1 (rdTake L why pos 2).2.2 3 pos).2 = 0 := by
      unfold rdLeft rdStop
      by_cases h1 : (rdTake L why pos 2).2.1 = 0
      · rw [if_pos h1]; simp
      · rw [if_neg h1, if_neg h1]
    unfold rdTake
    unfold rdTake at h h0
    rw [if_neg (by rw [h0]; omega)]
    exact Nat.zero_le _
  · rw [if_neg h]
    exact Nat.le_trans (rdTake_le _ _ _ _) (by omega)
theorem rdVal_ok (L : List UInt8) (why pos : Nat) : rightV (rdVal L why pos).1.1 (rdVal L why pos).1.2.1 ⟨(rdVal L why pos).1.2.2.toArray⟩ = ((rdVal L why pos).2.1 == 0) := by
  unfold rdVal
  by_cases he : (rdRaw L why pos).2.1 = 0
  · simp only [he, if_true, beq_self_eq_true]
    unfold rdRaw at he ⊢
    simp only at he ⊢
    by_cases h1 : leVal (rdTake L why pos 1).1 = 1
    · rw [if_pos h1]
      simp [rightV]
    · rw [if_neg h1] at he ⊢
      by_cases h2 : leVal (rdTake L why pos 1).1 = 2
      · rw [if_pos h2]
        have := rdText_le L (rdTake L why pos 1).2.1 (rdTake L why pos 1).2.2 40
        simp only [rightV]
        have e : (⟨(rdText L (rdTake L why pos 1).2.1 (rdTake L why pos 1).2.2 40).1.toArray⟩ : ByteArray).size = (rdText L (rdTake L why pos 1).2.1 (rdTake L why pos 1).2.2 40).1.length := by
          show (List.toArray _).size = _
          simp
        rw [e]
        simp [this]
      · rw [if_neg h2] at he
        unfold rdStop at he
        by_cases h3 : (rdTake L why pos 1).2.1 = 0
        · rw [if_pos h3] at he; cases he
        · rw [if_neg h3] at he; exact absurd he h3
  · simp only [he, if_false]
    rw [beq_eq_false_iff_ne.2 he]
    rfl

theorem ref_failat {p : Nat} {A : Option Addr} {n cap : Nat} {L : List UInt8} {why pos : Nat} (e q : Nat) (w : World) (h : Rqs p A n cap L why pos w) (he : e ≠ 0) :
    Calls Try.prog 49 #[.pointer (some ⟨p, 0, none⟩), .int .i64 (e : Int), .int .i64 (q : Int)] w fun x w' => x = .returned (.tuple #[]) ∧ Rqs p A n cap L (rdStop why pos e q).1 (rdStop why pos e q).2 w' ∧ But [p] w w' := by
  have HC := Lib.hid (ref_refuse e q w h he)
  go_enter Try.func49, Try.ntmps49
  go_wp2_with (first | ((with_reducible refine HC.out.mono ?_); rintro x w' ⟨rfl, hR, hB⟩))
  go_end0
  exact ⟨by trivial, hR, hB⟩
theorem take_one {L : List UInt8} {why pos : Nat} (h : (rdTake L why pos 1).2.1 = 0) : why = 0 ∧ 0 < rdLeft L why pos ∧ (rdTake L why pos 1).2.2 = pos + 1 := by
  unfold rdTake at h ⊢
  by_cases hk : 1 ≤ rdLeft L why pos
  · rw [if_pos hk] at h ⊢
    exact ⟨h, hk, rfl⟩
  · rw [if_neg hk] at h
    unfold rdStop at h
    split at h
    · cases h
    · rename_i hw; exact absurd h hw
end Go.Proofs.Ytkjodlngpdihhaa
