/-
  Chapter 17 in plain words: how a table is written as bytes, and read.
-/
import Derived.Test.YtdfoangkjeoomaaNa
namespace Go.Proofs.Ytdfoangkjeoomaa
open Go.RowKit
set_option linter.unusedVariables false

/-- A name in pieces: the first that is not full is the last. -/
def nameB (l : List UInt8) : List UInt8 := if h : 65535 ≤ l.length then textBytes (l.take 65535) ++ nameB (l.drop 65535) else textBytes l
  termination_by l.length
  decreasing_by simp; omega
theorem nameB_short {l : List UInt8} (h : l.length < 65535) : nameB l = textBytes l := by rw [nameB, dif_neg (by omega)]
theorem nameB_long {l : List UInt8} (h : 65535 ≤ l.length) : nameB l = textBytes (l.take 65535) ++ nameB (l.drop 65535) := by rw [nameB, dif_pos h]
def qBytes (q : RQ) : List UInt8 := le 8 (low q.1) ++ (le 8 (low q.2.1) ++ (le 8 (low q.2.2.1) ++ nameB q.2.2.2.data.toList))
def saveB (T : List RQ) : List UInt8 := T.flatMap qBytes
theorem textBytes_length (s : List UInt8) : (textBytes s).length = s.length + 2 := by simp [textBytes, le_length]; omega
theorem nameB_pos (l : List UInt8) : 2 ≤ (nameB l).length := by
  by_cases h : 65535 ≤ l.length
  · rw [nameB_long h]; simp [textBytes_length]; omega
  · rw [nameB_short (by omega)]; simp [textBytes_length]
theorem qBytes_length (q : RQ) : (qBytes q).length = 24 + (nameB q.2.2.2.data.toList).length := by simp [qBytes, le_length]; omega
theorem qBytes_zero : (qBytes rq0).length = 26 := by rw [qBytes_length, nameB_short (by decide)]; rfl
theorem saveB_set : ∀ (T : List RQ) (c : Nat) (q : RQ), (saveB (T.set c q)).length + 26 ≤ (saveB T).length + (qBytes q).length + (if c < T.length then 0 else 26)
  | [], c, q => by simp [saveB]
  | x :: T, 0, q => by
    simp only [saveB, List.set_cons_zero, List.flatMap_cons, List.length_append, List.length_cons]
    have := qBytes_length x; have := nameB_pos x.2.2.2.data.toList
    simp; omega
  | x :: T, c + 1, q => by
    have := saveB_set T c q
    simp only [saveB, List.set_cons_succ, List.flatMap_cons, List.length_append, List.length_cons, Nat.add_lt_add_iff_right] at *
    omega

/-- What a take does to the place. -/
theorem rdTake_pos {L : List UInt8} {why pos k : Nat} (hp : pos ≤ L.length) : pos ≤ (rdTake L why pos k).2.2 ∧ (rdTake L why pos k).2.2 ≤ L.length ∧ (rdTake L why pos k).1.length + pos ≤ (rdTake L why pos k).2.2 := by
  unfold rdTake rdLeft rdStop
  by_cases hw : why = 0
  · subst hw
    by_cases hk : k ≤ L.length - pos
    · simp [hk]; omega
    · simp [hk]; omega
  · by_cases hk : k ≤ 0
    · obtain rfl : k = 0 := by omega
      simp [hw]; exact hp
    · simp [hw, hk]; exact hp
theorem rdTake_some {L : List UInt8} {why pos k : Nat} (h : (rdTake L why pos k).1 ≠ []) : why = 0 ∧ (rdTake L why pos k).2 = (0, pos + k) ∧ (rdTake L why pos k).1.length = k ∧ pos + k ≤ L.length := by
  by_cases hk : k ≤ rdLeft L why pos
  · rw [rdTake, if_pos hk] at h ⊢
    unfold rdLeft at hk
    by_cases hw : why = 0
    · rw [if_pos hw] at hk
      have : k ≠ 0 := by rintro rfl; simp at h
      subst hw
      simp; omega
    · rw [if_neg hw] at hk
      obtain rfl : k = 0 := by omega
      simp at h
  · rw [rdTake, if_neg hk] at h
    simp at h
theorem rdText_eq (L : List UInt8) (why pos : Nat) : rdText L why pos 65535 = rdTake L (rdTake L why pos 2).2.1 (rdTake L why pos 2).2.2 (leVal (rdTake L why pos 2).1) := by
  have hv := rdTake_val L why pos 2
  unfold rdText
  simp only [if_neg (show ¬ 65535 < leVal (rdTake L why pos 2).1 by omega)]
theorem rdText_pos {L : List UInt8} {why pos : Nat} (hp : pos ≤ L.length) : pos ≤ (rdText L why pos 65535).2.2 ∧ (rdText L why pos 65535).2.2 ≤ L.length := by
  rw [rdText_eq]
  have h1 := rdTake_pos (why := why) (k := 2) hp
  have h2 := rdTake_pos (L := L) (why := (rdTake L why pos 2).2.1) (pos := (rdTake L why pos 2).2.2) (k := leVal (rdTake L why pos 2).1) h1.2.1
  omega
theorem rdText_some {L : List UInt8} {why pos : Nat} (h : (rdText L why pos 65535).1 ≠ []) : (rdText L why pos 65535).2 = (0, pos + 2 + (rdText L why pos 65535).1.length) ∧ pos + 2 + (rdText L why pos 65535).1.length ≤ L.length := by
  rw [rdText_eq] at *
  have h2 := rdTake_some h
  have h1 : (rdTake L why pos 2).1 ≠ [] := by
    intro e
    rw [e] at h2
    have := h2.2.2.1
    simp only [leVal, List.length_eq_zero_iff] at this
    rw [e] at h
    exact h this
  have h3 := rdTake_some h1
  rw [h2.2.2.1, h2.2.1]
  rw [h3.2.1] at h2 ⊢
  exact ⟨rfl, h2.2.2.2⟩

/-- A name that is read: pieces up to the first that is not full. -/
def rdName (L : List UInt8) (why pos : Nat) : List UInt8 × Nat × Nat :=
  if h : (rdText L why pos 65535).1.length < 65535 then rdText L why pos 65535
  else ((rdText L why pos 65535).1 ++ (rdName L (rdText L why pos 65535).2.1 (rdText L why pos 65535).2.2).1, (rdName L (rdText L why pos 65535).2.1 (rdText L why pos 65535).2.2).2)
  termination_by L.length - pos
  decreasing_by
  all_goals
    have hs := rdText_some (L := L) (why := why) (pos := pos) (by intro e; rw [e] at h; simp at h)
    rw [hs.1]
    have := hs.2
    simp only
    omega
theorem rdName_short {L : List UInt8} {why pos : Nat} (h : (rdText L why pos 65535).1.length < 65535) : rdName L why pos = rdText L why pos 65535 := by rw [rdName, dif_pos h]
theorem rdName_long {L : List UInt8} {why pos : Nat} (h : ¬ (rdText L why pos 65535).1.length < 65535) : rdName L why pos = ((rdText L why pos 65535).1 ++ (rdName L (rdText L why pos 65535).2.1 (rdText L why pos 65535).2.2).1, (rdName L (rdText L why pos 65535).2.1 (rdText L why pos 65535).2.2).2) := by rw [rdName, dif_neg h]
theorem rdText_le (L : List UInt8) (why pos : Nat) : (rdText L why pos 65535).1.length ≤ 65535 := by
  rw [rdText_eq]
  have h1 := rdTake_le L (rdTake L why pos 2).2.1 (rdTake L why pos 2).2.2 (leVal (rdTake L why pos 2).1)
  have h2 := rdTake_val L why pos 2
  omega
theorem rdName_pos {L : List UInt8} : ∀ (m why pos : Nat), L.length - pos ≤ m → pos ≤ L.length → pos ≤ (rdName L why pos).2.2 ∧ (rdName L why pos).2.2 ≤ L.length ∧ (nameB (rdName L why pos).1).length + pos ≤ (rdName L why pos).2.2 + 2 ∧ (rdName L why pos).1.length + pos ≤ (rdName L why pos).2.2
  | m, why, pos, hm, hp => by
    have hP := rdText_pos (why := why) hp
    by_cases h : (rdText L why pos 65535).1.length < 65535
    · rw [rdName_short h, nameB_short h, textBytes_length]
      by_cases he : (rdText L why pos 65535).1 = []
      · rw [he]; simp; omega
      · have hs := rdText_some he
        rw [hs.1]; simp only; omega
    · have hne : (rdText L why pos 65535).1 ≠ [] := by intro e; rw [e] at h; simp at h
      have hs := rdText_some hne
      have hl := rdText_le L why pos
      rw [rdName_long h]
      match m, hm with
      | 0, hm => omega
      | m + 1, hm =>
        have ih := rdName_pos m (rdText L why pos 65535).2.1 (rdText L why pos 65535).2.2 (by rw [hs.1]; simp only; omega) hP.2
        generalize hr : rdName L (rdText L why pos 65535).2.1 (rdText L why pos 65535).2.2 = r at *
        rw [nameB_long (by simp; omega)]
        have e1 : List.take 65535 ((rdText L why pos 65535).1 ++ r.1) = (rdText L why pos 65535).1 := by rw [List.take_append_of_le_length (by omega), List.take_of_length_le (by omega)]
        have e2 : List.drop 65535 ((rdText L why pos 65535).1 ++ r.1) = r.1 := by rw [List.drop_append_of_le_length (by omega), List.drop_of_length_le (by omega), List.nil_append]
        simp only [e1, e2, List.length_append, textBytes_length]
        have h9 : (rdText L why pos 65535).2.2 = pos + 2 + (rdText L why pos 65535).1.length := by rw [hs.1]
        omega

/-- A request that is read; a table that is read, from a client on. -/
def rdQ (L : List UInt8) (why pos : Nat) : RQ × Nat × Nat :=
  let a := rdTake L why pos 8
  let b := rdTake L a.2.1 a.2.2 8
  let c := rdTake L b.2.1 b.2.2 8
  let n := rdName L c.2.1 c.2.2
  ((wrap64 (leVal a.1), wrap64 (leVal b.1), wrap64 (leVal c.1), ⟨n.1.toArray⟩), n.2)
def loadF (L : List UInt8) : Nat → Nat → List RQ → Nat → Nat → List RQ × Nat × Nat
  | 0, _, T, why, pos => (T, why, pos)
  | k + 1, c, T, why, pos => loadF L k (c + 1) (doneT T c (rdQ L why pos).1.1 (rdQ L why pos).1.2) (rdQ L why pos).2.1 (rdQ L why pos).2.2
def loadT (L : List UInt8) : List RQ := (loadF L 16 0 newT 0 0).1
theorem rdQ_pos {L : List UInt8} {why pos : Nat} (hp : pos ≤ L.length) : pos ≤ (rdQ L why pos).2.2 ∧ (rdQ L why pos).2.2 ≤ L.length ∧ (qBytes (rdQ L why pos).1).length + pos ≤ (rdQ L why pos).2.2 + 26 := by
  unfold rdQ
  rw [qBytes_length]
  simp only
  have h1 := rdTake_pos (why := why) (k := 8) hp
  have h2 := rdTake_pos (L := L) (why := (rdTake L why pos 8).2.1) (k := 8) h1.2.1
  have h3 := rdTake_pos (L := L) (why := (rdTake L (rdTake L why pos 8).2.1 (rdTake L why pos 8).2.2 8).2.1) (k := 8) h2.2.1
  have h4 := rdName_pos (L := L) _ (rdTake L (rdTake L (rdTake L why pos 8).2.1 (rdTake L why pos 8).2.2 8).2.1 (rdTake L (rdTake L why pos 8).2.1 (rdTake L why pos 8).2.2 8).2.2 8).2.1 _ (Nat.le_refl _) h3.2.1
  omega
theorem doneT_size (T : List RQ) (c : Nat) (q : RQ) (hc : c < T.length) : (saveB (doneT T c q.1 q.2)).length + 26 ≤ (saveB T).length + (qBytes q).length := by
  unfold doneT
  split
  · have := saveB_set T c q
    rw [if_pos hc] at this
    simpa using this
  · have := qBytes_length q; have := nameB_pos q.2.2.2.data.toList
    omega
theorem loadF_size {L : List UInt8} : ∀ (k c : Nat) (T : List RQ) (why pos : Nat), c + k ≤ T.length → pos ≤ L.length → (saveB (loadF L k c T why pos).1).length + pos ≤ (saveB T).length + L.length ∧ (loadF L k c T why pos).1.length = T.length
  | 0, c, T, why, pos, hc, hp => by simp only [loadF]; exact ⟨by omega, trivial⟩
  | k + 1, c, T, why, pos, hc, hp => by
    have h1 := rdQ_pos (why := why) hp
    have h2 := doneT_size T c (rdQ L why pos).1 (by omega)
    have h3 := loadF_size k (c + 1) (doneT T c (rdQ L why pos).1.1 (rdQ L why pos).1.2) (rdQ L why pos).2.1 (rdQ L why pos).2.2 (by rw [doneT_length]; omega) h1.2.1
    rw [doneT_length] at h3
    rw [loadF]
    exact ⟨by omega, h3.2⟩
theorem newT_size : (saveB newT).length = 416 := by
  have e : saveB newT = (List.replicate 16 rq0).flatMap qBytes := rfl
  rw [e, List.length_flatMap]
  simp [qBytes_zero]
theorem loadT_size (L : List UInt8) : (saveB (loadT L)).length ≤ L.length + 416 ∧ (loadT L).length = 16 := by
  have h := loadF_size (L := L) 16 0 newT 0 0 (by decide) (Nat.zero_le _)
  rw [newT_size] at h
  unfold loadT
  exact ⟨by omega, h.2⟩

/-- What is written is read. -/
theorem take_here {x r : List UInt8} {k : Nat} (h : x.length = k) (pos : Nat) (p : List UInt8) (hp : p.length = pos) (L : List UInt8) (hL : L = p ++ (x ++ r)) : rdTake L 0 pos k = (x, 0, pos + k) := by
  subst hL
  unfold rdTake rdLeft
  rw [if_pos (by simp; omega)]
  simp only [← hp, List.drop_left, ← h, List.take_left]
theorem leVal_low {n : Int} (h0 : -9223372036854775808 ≤ n) (h1 : n ≤ 9223372036854775807) : wrap64 ((leVal (le 8 (low n)) : Nat) : Int) = n := by
  rw [leVal_le, Nat.mod_eq_of_lt (Nat.lt_of_lt_of_le (low_lt n) (by decide)), low_cast]
  unfold wrap64
  omega
theorem name_here {s r : List UInt8} (hs : s.length < 65535) (pos : Nat) (p : List UInt8) (hp : p.length = pos) (L : List UInt8) (hL : L = p ++ (nameB s ++ r)) : rdName L 0 pos = (s, 0, pos + (s.length + 2)) := by
  rw [nameB_short hs] at hL
  have e1 := take_here (x := le 2 s.length) (r := s ++ r) (le_length 2 _) pos p hp L (by rw [hL]; simp [textBytes])
  have e2 := take_here (x := s) (r := r) rfl (pos + 2) (p ++ le 2 s.length) (by simp [le_length, hp]) L (by rw [hL]; simp [textBytes])
  have hv : leVal (le 2 s.length) = s.length := by rw [leVal_le, Nat.mod_eq_of_lt (by omega)]
  have e3 : rdText L 0 pos 65535 = (s, 0, pos + (s.length + 2)) := by
    rw [rdText_eq, e1]
    simp only [hv]
    rw [e2]
    simp only [Prod.mk.injEq, true_and]
    omega
  rw [rdName_short (by rw [e3]; exact hs), e3]
theorem rdQ_here {m : Nat} (hm : m < 65535) {q : RQ} (hq : QOk m q) {r : List UInt8} (pos : Nat) (p : List UInt8) (hp : p.length = pos) (L : List UInt8) (hL : L = p ++ (qBytes q ++ r)) : rdQ L 0 pos = (q, 0, pos + (qBytes q).length) := by
  obtain ⟨h1, h2, h3, h4⟩ := hq
  have hr1 : -9223372036854775808 ≤ q.1 ∧ q.1 ≤ 9223372036854775807 := by
    rcases h1 with rfl | h1
    · decide
    · omega
  have hsz : q.2.2.2.data.toList.length < 65535 := by
    have : q.2.2.2.data.toList.length = q.2.2.2.size := by rw [Array.length_toList]; rfl
    omega
  have e1 := take_here (x := le 8 (low q.1)) (le_length 8 _) pos p hp L (by rw [hL, qBytes, List.append_assoc])
  have e2 := take_here (x := le 8 (low q.2.1)) (r := le 8 (low q.2.2.1) ++ (nameB q.2.2.2.data.toList ++ r)) (le_length 8 _) (pos + 8) (p ++ le 8 (low q.1)) (by simp [le_length, hp]) L (by rw [hL]; simp only [qBytes, List.append_assoc])
  have e3 := take_here (x := le 8 (low q.2.2.1)) (r := nameB q.2.2.2.data.toList ++ r) (le_length 8 _) (pos + 8 + 8) (p ++ (le 8 (low q.1) ++ le 8 (low q.2.1))) (by simp [le_length, hp]) L (by rw [hL]; simp only [qBytes, List.append_assoc])
  have e4 := name_here (s := q.2.2.2.data.toList) (r := r) hsz (pos + 8 + 8 + 8) (p ++ (le 8 (low q.1) ++ (le 8 (low q.2.1) ++ le 8 (low q.2.2.1)))) (by simp [le_length, hp]) L (by rw [hL]; simp only [qBytes, List.append_assoc])
  unfold rdQ
  simp only [e1, e2, e3, e4, leVal_low hr1.1 hr1.2, leVal_low h2.1 h2.2, leVal_low h3.1 h3.2]
  have hl := qBytes_length q
  rw [nameB_short hsz, textBytes_length] at hl
  rw [hl]
  obtain ⟨a, b, c, s⟩ := q
  simp only [Prod.mk.injEq, true_and]
  omega
theorem load_back {m : Nat} (hm : m < 65535) : ∀ (T2 T1 : List RQ) (p : List UInt8) (L : List UInt8), (∀ q ∈ T2, QOk m q) → T1.length + T2.length = 16 → L = p ++ saveB T2 →
    loadF L T2.length T1.length (T1 ++ List.replicate T2.length rq0) 0 p.length = (T1 ++ T2, 0, L.length)
  | [], T1, p, L, _, _, hL => by subst hL; simp [loadF, saveB]
  | q :: T2, T1, p, L, hq, h16, hL => by
    have hlen : T1.length < 16 := by simp at h16; omega
    have e := rdQ_here hm (hq q (by simp)) (r := saveB T2) p.length p rfl L (by rw [hL]; simp [saveB])
    have hd : doneT (T1 ++ List.replicate (T2.length + 1) rq0) T1.length q.1 q.2 = (T1 ++ [q]) ++ List.replicate T2.length rq0 := by
      have hg : (T1 ++ List.replicate (T2.length + 1) rq0).getD T1.length rq0 = rq0 := by simp [List.getD]
      have hset : (T1 ++ List.replicate (T2.length + 1) rq0).set T1.length q = (T1 ++ [q]) ++ List.replicate T2.length rq0 := by
        rw [List.set_append_right _ _ (Nat.le_refl _)]
        simp [List.replicate_succ]
      have hz : ((T1.length : Nat) : Int).toNat = T1.length := by omega
      unfold doneT askK
      rw [hz, hg]
      rcases (hq q (by simp)).1 with rfl | h1
      · rw [if_pos (show (T1.length : Int) < 0 ∨ _ from .inr (.inr (.inl (by decide)))), if_neg (by decide), ← hset]
        simp [List.replicate_succ]
      · have h0 : rq0.1 = 0 := rfl
        rw [h0, if_neg (show ¬ ((T1.length : Int) < 0 ∨ 16 ≤ (T1.length : Int) ∨ q.1 < 1 ∨ 1073741824 < q.1) by omega), if_pos (show (0 : Int) < q.1 by omega), if_pos rfl, ← hset]
    rw [List.length_cons, loadF, e]
    simp only
    rw [hd]
    have ih := load_back hm T2 (T1 ++ [q]) (p ++ qBytes q) L (fun x hx => hq x (by simp [hx])) (by simp at h16 ⊢; omega) (by rw [hL]; simp [saveB])
    rw [List.length_append, List.length_append] at ih
    simpa using ih
theorem loadT_back {m : Nat} (hm : m < 65535) {T : List RQ} (h : TOk m T) : loadT (saveB T) = T := by
  have := load_back hm T [] [] (saveB T) h.2 (by simpa using h.1) rfl
  rw [h.1] at this
  unfold loadT newT
  simp only [List.length_nil, List.nil_append] at this
  rw [this]
end Go.Proofs.Ytdfoangkjeoomaa
