/-
  The plain mathematics of CRC-32 bit by bit, on natural numbers below 2^32, over lists of bytes. Nothing of the program is imported here.
-/
namespace Go.Proofs.Ytmhgpbohkdndpaa

/-- One bit of the sum. -/
def crcBit (c : Nat) : Nat := c / 2 ^^^ (3988292384 * (c % 2))
/-- n bits. -/
def crcBits : Nat → Nat → Nat
  | 0, c => c
  | n + 1, c => crcBit (crcBits n c)
/-- One byte. -/
def crcByte (c : Nat) (x : UInt8) : Nat := crcBits 8 (c ^^^ x.toNat)
/-- The inner sum behind a list of bytes. -/
def crcRun (l : List UInt8) : Nat := l.foldl crcByte 4294967295
/-- The sum of a list of bytes. -/
def crc (l : List UInt8) : Nat := 4294967295 - crcRun l

theorem crcBit_lt (c : Nat) (h : c < 4294967296) : crcBit c < 4294967296 := by
  have h1 : c / 2 < 2 ^ 32 := by omega
  have h2 : 3988292384 * (c % 2) < 2 ^ 32 := by
    rcases Nat.mod_two_eq_zero_or_one c with e | e <;> rw [e] <;> decide
  exact Nat.xor_lt_two_pow h1 h2
theorem crcBits_lt (n c : Nat) (h : c < 4294967296) : crcBits n c < 4294967296 := by
  induction n with
  | zero => exact h
  | succ n ih => exact crcBit_lt _ ih
theorem xor_byte_lt (c : Nat) (x : UInt8) (h : c < 4294967296) : c ^^^ x.toNat < 4294967296 := by
  have h1 : x.toNat < 2 ^ 32 := by have := x.toNat_lt; omega
  exact Nat.xor_lt_two_pow (n := 32) h h1
theorem crcByte_lt (c : Nat) (x : UInt8) (h : c < 4294967296) : crcByte c x < 4294967296 := crcBits_lt _ _ (xor_byte_lt c x h)
theorem foldl_lt (l : List UInt8) : ∀ c : Nat, c < 4294967296 → l.foldl crcByte c < 4294967296 := by
  induction l with
  | nil => intro c h; exact h
  | cons x l ih => intro c h; exact ih _ (crcByte_lt c x h)
theorem crcRun_lt (l : List UInt8) : crcRun l < 4294967296 := foldl_lt l _ (by decide)
theorem crc_lt (l : List UInt8) : crc l < 4294967296 := by unfold crc; omega
theorem crcRun_snoc (l : List UInt8) (x : UInt8) : crcRun (l ++ [x]) = crcByte (crcRun l) x := by simp [crcRun]

theorem take_succ_getD (l : List UInt8) (k : Nat) (h : k < l.length) : l.take (k + 1) = l.take k ++ [l.getD k 0] := by
  rw [List.take_succ_eq_append_getElem h]
  simp [List.getD, h]
theorem crcRun_take (l : List UInt8) (k : Nat) (h : k < l.length) : crcRun (l.take (k + 1)) = crcByte (crcRun (l.take k)) (l.getD k 0) := by
  rw [take_succ_getD l k h, crcRun_snoc]

/-- The bytes of a number, the least significant first. -/
def leBytes : Nat → Nat → List UInt8
  | 0, _ => []
  | n + 1, c => UInt8.ofNat c :: leBytes n (c / 256)
theorem leBytes_length (n c : Nat) : (leBytes n c).length = n := by
  induction n generalizing c with
  | zero => rfl
  | succ n ih => simp [leBytes, ih]
/-- What is sealed. -/
def seal_ (l : List UInt8) : List UInt8 := leBytes 4 (crc l) ++ l
theorem seal_length (l : List UInt8) : (seal_ l).length = l.length + 4 := by simp [seal_, leBytes_length]; omega

end Go.Proofs.Ytmhgpbohkdndpaa
