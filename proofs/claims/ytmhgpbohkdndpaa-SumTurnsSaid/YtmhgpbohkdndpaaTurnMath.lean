/-
  One byte that is turned in what was sealed is told: the sum of two lists that differ in one place differs.
-/
import Derived.Test.YtmhgpbohkdndpaaOpen
namespace Go.Proofs.Ytmhgpbohkdndpaa

theorem xor_left_inj_ {a b c : Nat} (h : a ^^^ c = b ^^^ c) : a = b := by
  have := congrArg (· ^^^ c) h
  simpa [Nat.xor_assoc] using this
theorem xor_right_inj_ {a b c : Nat} (h : c ^^^ a = c ^^^ b) : a = b := by
  rw [Nat.xor_comm c a, Nat.xor_comm c b] at h
  exact xor_left_inj_ h
theorem testBit_crcBit (c : Nat) (h : c < 4294967296) : (crcBit c).testBit 31 = decide (c % 2 = 1) := by
  unfold crcBit
  rw [Nat.testBit_xor, Nat.testBit_lt_two_pow (show c / 2 < 2 ^ 31 by omega), Bool.false_xor]
  rcases Nat.mod_two_eq_zero_or_one c with e | e <;> rw [e] <;> decide
theorem crcBit_inj {c d : Nat} (hc : c < 4294967296) (hd : d < 4294967296) (h : crcBit c = crcBit d) : c = d := by
  have h1 := congrArg (fun x => x.testBit 31) h
  simp only [testBit_crcBit c hc, testBit_crcBit d hd] at h1
  have h2 : c % 2 = d % 2 := by
    rcases Nat.mod_two_eq_zero_or_one c with e | e <;> rcases Nat.mod_two_eq_zero_or_one d with e' | e' <;> simp [e, e'] at h1 ⊢
  unfold crcBit at h
  rw [h2] at h
  have h3 : c / 2 = d / 2 := xor_left_inj_ h
  omega
theorem crcBits_inj (n : Nat) {c d : Nat} (hc : c < 4294967296) (hd : d < 4294967296) (h : crcBits n c = crcBits n d) : c = d := by
  induction n with
  | zero => exact h
  | succ n ih => exact ih (crcBit_inj (crcBits_lt _ _ hc) (crcBits_lt _ _ hd) h)
theorem crcByte_inj_state {c d : Nat} {x : UInt8} (hc : c < 4294967296) (hd : d < 4294967296) (h : crcByte c x = crcByte d x) : c = d :=
  xor_left_inj_ (crcBits_inj 8 (xor_byte_lt _ _ hc) (xor_byte_lt _ _ hd) h)
theorem crcByte_inj_byte {c : Nat} {x y : UInt8} (hc : c < 4294967296) (h : crcByte c x = crcByte c y) : x = y :=
  UInt8.toNat_inj.1 (xor_right_inj_ (crcBits_inj 8 (xor_byte_lt _ _ hc) (xor_byte_lt _ _ hc) h))
theorem foldl_inj (l : List UInt8) : ∀ {c d : Nat}, c < 4294967296 → d < 4294967296 → l.foldl crcByte c = l.foldl crcByte d → c = d := by
  induction l with
  | nil => intro c d _ _ h; exact h
  | cons x l ih => intro c d hc hd h; exact crcByte_inj_state hc hd (ih (crcByte_lt _ _ hc) (crcByte_lt _ _ hd) h)
theorem crcRun_set (l : List UInt8) (k : Nat) (y : UInt8) (hk : k < l.length) (h : crcRun (l.set k y) = crcRun l) : y = l.getD k 0 := by
  have key : ∀ (l : List UInt8) (k : Nat) (c : Nat), k < l.length → c < 4294967296 → (l.set k y).foldl crcByte c = l.foldl crcByte c → y = l.getD k 0 := by
    intro l
    induction l with
    | nil => intro k c hk _ _; simp at hk
    | cons x l ih =>
      intro k c hk hc h
      cases k with
      | zero =>
        simp only [List.set_cons_zero, List.foldl_cons] at h
        simpa using crcByte_inj_byte hc (foldl_inj l (crcByte_lt _ _ hc) (crcByte_lt _ _ hc) h)
      | succ k =>
        simp only [List.set_cons_succ, List.foldl_cons] at h
        simpa [List.getD] using ih k _ (by simpa using hk) (crcByte_lt _ _ hc) h
  exact key l k _ hk (by decide) h
theorem crc_set (l : List UInt8) (k : Nat) (y : UInt8) (hk : k < l.length) (h : crc (l.set k y) = crc l) : y = l.getD k 0 := by
  have h1 := crcRun_lt l
  have h2 := crcRun_lt (l.set k y)
  unfold crc at h
  exact crcRun_set l k y hk (by omega)
theorem leBytes_inj : ∀ (n : Nat) {c d : Nat}, c < 256 ^ n → d < 256 ^ n → leBytes n c = leBytes n d → c = d := by
  intro n
  induction n with
  | zero => intro c d hc hd _; simp at hc hd; omega
  | succ n ih =>
    intro c d hc hd h
    simp only [leBytes, List.cons.injEq] at h
    have h1 := congrArg UInt8.toNat h.1
    simp at h1
    have h2 := ih (c := c / 256) (d := d / 256) (by rw [Nat.pow_succ] at hc; omega) (by rw [Nat.pow_succ] at hd; omega) h.2
    omega

/-- A byte that is turned in what was sealed, or in the seal, is told. -/
theorem turned_told (l : List UInt8) (k : Nat) (y : UInt8) (hk : k < (seal_ l).length) (hy : y ≠ (seal_ l).getD k 0) : isSealed ((seal_ l).set k y) = false := by
  unfold isSealed
  rw [Bool.and_eq_false_iff]
  right
  rw [beq_eq_false_iff_ne]
  intro h
  have h4 := leBytes_length 4 (crc l)
  by_cases hk4 : k < 4
  · have e1 : ((seal_ l).set k y).drop 4 = l := by
      unfold seal_
      rw [List.set_append_left _ _ (by omega), List.drop_append, List.length_set, h4]
      simp [List.drop_eq_nil_of_le (show ((leBytes 4 (crc l)).set k y).length ≤ 4 by simp [h4])]
    rw [e1] at h
    apply hy
    have := congrArg (fun x => x.getD k 0) h
    simpa [List.getD, hk] using this
  · obtain ⟨j, rfl⟩ : ∃ j, k = 4 + j := ⟨k - 4, by omega⟩
    rw [seal_length] at hk
    have e1 : (seal_ l).set (4 + j) y = leBytes 4 (crc l) ++ l.set j y := by
      unfold seal_
      rw [List.set_append_right _ _ (by omega), h4, show 4 + j - 4 = j by omega]
    have e2 : (leBytes 4 (crc l) ++ l.set j y).drop 4 = l.set j y := by
      rw [List.drop_append, h4]
      simp [List.drop_eq_nil_of_le (Nat.le_of_eq h4)]
    rw [e1, e2] at h
    unfold seal_ at h
    have h5 := List.append_inj_left h (by rw [h4, leBytes_length])
    have h6 := leBytes_inj 4 (crc_lt _) (crc_lt _) h5
    have h7 := crc_set l j y (by omega) h6.symm
    apply hy
    rw [h7]
    unfold seal_
    simp only [List.getD]
    rw [List.getElem?_append_right (by omega), h4, show 4 + j - 4 = j by omega]

end Go.Proofs.Ytmhgpbohkdndpaa
