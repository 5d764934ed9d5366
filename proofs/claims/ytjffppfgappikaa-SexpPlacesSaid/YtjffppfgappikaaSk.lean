/-
  What a token tells of the byte at which it stands.
-/
import Derived.Test.YtjffppfgappikaaSj
namespace Go.Proofs.Ytjffppfgappikaa
open Go.RowKit
set_option linter.unusedVariables false

theorem sxText_props : ∀ (N : Nat) (r b : By) (i : Nat), r.length ≤ N → ((sxTextGo b r i).why ≠ 0 → (sxTextGo b r i).kind = 0 ∧ ((sxTextGo b r i).fault ≤ i + r.length)) ∧ ((sxTextGo b r i).why = 0 → (sxTextGo b r i).kind = 4 ∧ i + 1 ≤ (sxTextGo b r i).size ∧ (sxTextGo b r i).size ≤ i + r.length)
  | 0, [], b, i, _ => by simp [sxTextGo, sxWrong]
  | N + 1, [], b, i, _ => by simp [sxTextGo, sxWrong]
  | 0, c :: q, b, i, h => by simp at h
  | N + 1, c :: q, b, i, h => by
    have hq : q.length ≤ N := by simpa using h
    unfold sxTextGo
    by_cases hp : sxPlain c = true
    · rw [if_pos hp]
      obtain ⟨h1, h2⟩ := sxText_props N q (b ++ [c]) (i + 1) hq
      refine ⟨fun hw => ⟨(h1 hw).1, by have := (h1 hw).2; simp only [List.length_cons]; omega⟩, fun hw => ⟨(h2 hw).1, by have := (h2 hw).2; omega, by have := (h2 hw).2; simp only [List.length_cons]; omega⟩⟩
    · rw [if_neg hp]
      by_cases h92 : (c.toNat == 92) = true
      · rw [if_pos h92]
        cases q with
        | nil => simp [sxWrong]
        | cons x q1 =>
          simp only []
          cases hx : sxHex x with
          | none =>
            simp [sxWrong]
          | some a =>
            cases q1 with
            | nil => simp [sxWrong]
            | cons y q2 =>
              simp only []
              cases hy : sxHex y with
              | none =>
                simp [sxWrong]
              | some k =>
                simp only []
                obtain ⟨h1, h2⟩ := sxText_props N q2 (b ++ [UInt8.ofNat (16 * a + k)]) (i + 3) (by simp at hq; omega)
                refine ⟨fun hw => ⟨(h1 hw).1, by have := (h1 hw).2; simp only [List.length_cons]; omega⟩, fun hw => ⟨(h2 hw).1, by have := (h2 hw).2; omega, by have := (h2 hw).2; simp only [List.length_cons]; omega⟩⟩
      · rw [if_neg h92]
        by_cases h34 : (c.toNat == 34) = true
        · rw [if_pos h34]
          by_cases h40 : 40 < b.length
          · rw [if_pos h40]
            simp [sxWrong]
          · rw [if_neg h40]
            simp
        · rw [if_neg h34]
          simp [sxWrong]
theorem sxNum_props (plus : Bool) (d : By) (hd : ∀ c ∈ d, sxDigit c = true) : ((sxNum plus d).why ≠ 0 → (sxNum plus d).kind = 0 ∧ (sxNum plus d).fault = 0) ∧
    ((sxNum plus d).why = 0 → (sxNum plus d).kind = 3 ∧ 1 ≤ d.length ∧ (sxNum plus d).size = (if plus then d.length else 1 + d.length) ∧ (if plus then 0 ≤ (sxNum plus d).n else (sxNum plus d).n ≤ 0)) := by
  unfold sxNum
  cases hb : sxBelow d 0 with
  | none => simp [sxWrong]
  | some n =>
    have hr := sxBelow_range d hd 0 n (by omega) (by omega) hb
    simp only []
    by_cases h1 : (d.isEmpty || plus && decide (n = -9223372036854775808)) = true
    · rw [if_pos h1]
      simp [sxWrong]
    · rw [if_neg h1]
      have hne : d.isEmpty = false := by
        cases hd' : d.isEmpty
        · rfl
        · rw [hd'] at h1; simp at h1
      have hlen : 1 ≤ d.length := by
        cases d with
        | nil => simp at hne
        | cons c q => simp
      cases plus
      · simp [hlen]; omega
      · simp [hlen]; omega

/-- What is known of the token at the beginning of some bytes. -/
structure ScanOk (c : UInt8) (r : By) (x : Tk) : Prop where
  bad : x.why ≠ 0 → x.kind = 0 ∧ x.fault ≤ r.length
  good : x.why = 0 → 1 ≤ x.size ∧ x.size ≤ r.length ∧
    ((x.kind = 1 ∧ c.toNat = 40) ∨ x.kind = -1 ∨ (x.kind = 2 ∧ 97 ≤ c.toNat ∧ c.toNat ≤ 122 ∧ ∃ q, x.s = c :: q) ∨ (x.kind = 3 ∧ (c.toNat = 45 ∧ x.n ≤ 0 ∨ 48 ≤ c.toNat ∧ c.toNat ≤ 57 ∧ 0 ≤ x.n)) ∨ (x.kind = 4 ∧ c.toNat = 34))
theorem sxScan_ok (c : UInt8) (q : By) : ScanOk c (c :: q) (sxScan (c :: q)) := by
  simp only [sxScan]
  by_cases h40 : (c.toNat == 40) = true
  · rw [if_pos h40]
    have h40' : c.toNat = 40 := by simpa using h40
    exact ⟨fun h => absurd rfl h, fun _ => ⟨Nat.le_refl _, by simp, .inl ⟨rfl, h40'⟩⟩⟩
  rw [if_neg h40]
  by_cases h41 : (c.toNat == 41) = true
  · rw [if_pos h41]
    exact ⟨fun h => absurd rfl h, fun _ => ⟨Nat.le_refl _, by simp, .inr (.inl rfl)⟩⟩
  rw [if_neg h41]
  by_cases h34 : (c.toNat == 34) = true
  · rw [if_pos h34]
    have h34' : c.toNat = 34 := by simpa using h34
    obtain ⟨h1, h2⟩ := sxText_props q.length q [] 1 (Nat.le_refl _)
    exact ⟨fun h => ⟨(h1 h).1, by have := (h1 h).2; simp; omega⟩, fun h => ⟨by have := (h2 h).2; omega, by have := (h2 h).2; simp; omega, .inr (.inr (.inr (.inr ⟨(h2 h).1, h34'⟩)))⟩⟩
  rw [if_neg h34]
  by_cases hn : (c.toNat == 45 || sxDigit c) = true
  · rw [if_pos hn]
    simp only [sxNumber]
    by_cases h45 : (c.toNat == 45) = true
    · rw [if_pos h45]
      have h45' : c.toNat = 45 := by simpa using h45
      obtain ⟨h1, h2⟩ := sxNum_props false (sxDigits q) (sxDigits_all q)
      have hl := sxDigits_len q
      have hr := sxRun_le sxDigit q
      refine ⟨fun h => ⟨(h1 h).1, by rw [(h1 h).2]; exact Nat.zero_le _⟩, fun h => ?_⟩
      obtain ⟨g1, g2, g3, g4⟩ := h2 h
      simp at g3 g4
      refine ⟨by omega, by simp; omega, .inr (.inr (.inr (.inl ⟨g1, .inl ⟨h45', g4⟩⟩)))⟩
    · rw [if_neg h45]
      have hdg : sxDigit c = true := by simpa [h45] using hn
      have hdg' : 48 ≤ c.toNat ∧ c.toNat ≤ 57 := by simpa [sxDigit] using hdg
      obtain ⟨h1, h2⟩ := sxNum_props true (sxDigits (c :: q)) (sxDigits_all (c :: q))
      have hl := sxDigits_len (c :: q)
      have hr := sxRun_le sxDigit (c :: q)
      refine ⟨fun h => ⟨(h1 h).1, by rw [(h1 h).2]; exact Nat.zero_le _⟩, fun h => ?_⟩
      obtain ⟨g1, g2, g3, g4⟩ := h2 h
      simp at g3 g4
      refine ⟨by omega, by omega, .inr (.inr (.inr (.inl ⟨g1, .inr ⟨hdg'.1, hdg'.2, g4⟩⟩)))⟩
  rw [if_neg hn]
  by_cases hl : sxLetter c = true
  · rw [if_pos hl]
    have hr := sxRun_le sxLetter (c :: q)
    have hr1 : sxRun sxLetter (c :: q) = sxRun sxLetter q + 1 := by simp [sxRun, hl]
    have hl' : 97 ≤ c.toNat ∧ c.toNat ≤ 122 := by simpa [sxLetter] using hl
    refine ⟨fun h => absurd rfl h, fun _ => ⟨by simp only []; omega, hr, .inr (.inr (.inl ⟨rfl, hl'.1, hl'.2, q.take (sxRun sxLetter q), ?_⟩))⟩⟩
    simp only []
    rw [hr1, List.take_succ_cons]
  · rw [if_neg hl]
    exact ⟨fun _ => ⟨rfl, Nat.zero_le _⟩, fun h => by simp [sxWrong] at h⟩
theorem sxJudge_ok {os : List T} {c : UInt8} {r : By} {x : Tk} (h : ScanOk c r x) (hj : (sxJudge os x).1 = 0) : x.why = 0 ∧ (x.kind = -1 → os.length ≠ 1) ∧ (x.kind ≠ -1 → sxDone os = false) ∧ (x.kind = 1 → os.length ≤ 12) := by
  unfold sxJudge at hj
  by_cases h1 : (!(x.why == 0) && !(sxDone os && decide (0 < x.fault))) = true
  · rw [if_pos h1] at hj
    simp only at hj
    rw [hj] at h1
    simp at h1
  rw [if_neg h1] at hj
  by_cases h2 : (x.kind == -1 && os.length == 1) = true
  · rw [if_pos h2] at hj; cases hj
  rw [if_neg h2] at hj
  by_cases h3 : (!(x.kind == -1) && sxDone os) = true
  · rw [if_pos h3] at hj; cases hj
  rw [if_neg h3] at hj
  by_cases h4 : (x.kind == 1 && decide (12 < os.length)) = true
  · rw [if_pos h4] at hj; cases hj
  have hw : x.why = 0 := by
    apply Classical.byContradiction
    intro hw
    have hk := (h.bad hw).1
    rw [hk] at h3
    have hw' : (x.why == 0) = false := beq_eq_false_iff_ne.2 hw
    rw [hw'] at h1
    cases hD : sxDone os
    · rw [hD] at h1; simp at h1
    · rw [hD] at h3; simp at h3
  refine ⟨hw, fun hk hl => h2 (by rw [hk, hl]; rfl), fun hk => ?_, fun hk => ?_⟩
  · cases hD : sxDone os
    · rfl
    · exact absurd (by rw [hD, beq_eq_false_iff_ne.2 hk]; rfl) h3
  · apply Classical.byContradiction
    intro hl
    exact h4 (by rw [hk, decide_eq_true (by omega)]; rfl)
theorem sxJudge_fault {os : List T} {c : UInt8} {r : By} {x : Tk} (h : ScanOk c r x) (hj : (sxJudge os x).1 ≠ 0) : (sxJudge os x).2 ≤ r.length := by
  unfold sxJudge at hj ⊢
  by_cases h1 : (!(x.why == 0) && !(sxDone os && decide (0 < x.fault))) = true
  · rw [if_pos h1] at hj ⊢
    exact (h.bad hj).2
  rw [if_neg h1]
  split
  · exact Nat.zero_le _
  · split
    · exact Nat.zero_le _
    · split <;> exact Nat.zero_le _
end Go.Proofs.Ytjffppfgappikaa
