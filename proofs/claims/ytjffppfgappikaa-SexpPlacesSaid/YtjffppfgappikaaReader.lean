/-
  The contracts of wire's Reader, and of bytes.Clone: what each method reads, where it stands behind it, and that it turns its own block alone.
-/
import Derived.Test.YtjffppfgappikaaProg
import Derived.Test.YtjffppfgappikaaBut
import Derived.Test.YtjffppfgappikaaWriter
import Derived.BigQuiet
import Derived.Deep.QuietTactic
import Derived.WalkMore
import Derived.ScopeJumps
import Derived.Lib.SliceRun
namespace Go.Proofs.Ytjffppfgappikaa
open Go.RowKit
set_option linter.unusedVariables false

variable {p : Nat} {A : Option Addr} {n cap : Nat} {L : List UInt8} {why pos : Nat} {w w' : World}
theorem set_heap {b : Nat} {cs : Array Value} {T : TypeId} (i : Nat) (x : Value) (h : w.heap[b]? = some (.cells cs T (0, 0))) : (w.setCell ⟨b, i, none⟩ x).heap[b]? = some (.cells (cs.setIfInBounds i x) T (0, 0)) := by
  simp only [World.setCell, Array.getElem?_modify, if_pos]
  rw [h]
  rfl
theorem But.set2 (b i j : Nat) (x y : Value) : But [b] w ((w.setCell ⟨b, i, none⟩ x).setCell ⟨b, j, none⟩ y) := (But.setCell ⟨b, i, none⟩ x (by simp)).then (But.setCell ⟨b, j, none⟩ y (by simp))

/-- 'b[lo:lo+k]', as the walk spells it. -/
theorem Bs.cut {l : List UInt8} {lo k : Nat} (h : Bs w A n cap l) (hk : lo + k ≤ n) : Bs w (if cap = lo then A else Option.map (fun x => x.add lo) A) (lo + k - lo) (cap - lo) ((l.drop lo).take k) := by
  have h1 := (h.from_ (k := lo) (by omega)).to (k := k) (by omega)
  rw [show lo + k - lo = k by omega]
  by_cases hn : 0 < n
  · obtain ⟨b, off, rfl, _⟩ := h.rd hn
    unfold Go.Proofs.Ytjffppfgappikaa.from_ at h1
    simpa [Addr.add_lit] using h1
  · have hl := h.len
    have hle := h.le
    have hmax := h.max
    refine ⟨by simp; omega, by omega, by omega, fun e => ?_, fun h0 => by omega⟩
    split at e
    · have := h.nil e; omega
    · have := h.nil (by simpa using e); omega
/-- How many bytes can still be read. -/
def rdLeft (L : List UInt8) (why pos : Nat) : Nat := if why = 0 then L.length - pos else 0
/-- The first error stays. -/
def rdStop (why pos e p : Nat) : Nat × Nat := if why = 0 then (e, p) else (why, pos)
/-- k bytes, or none if one is missing. -/
def rdTake (L : List UInt8) (why pos k : Nat) : List UInt8 × Nat × Nat :=
  if k ≤ rdLeft L why pos then ((L.drop pos).take k, why, pos + k) else ([], rdStop why pos 10 L.length)

/-- The number whose bytes these are, the lowest first. -/
def leVal : List UInt8 → Nat
  | [] => 0
  | b :: r => b.toNat + 256 * leVal r
theorem leVal_lt : ∀ l : List UInt8, leVal l < 256 ^ l.length
  | [] => by simp [leVal]
  | b :: r => by
    have h := leVal_lt r
    have hb := b.toNat_lt
    rw [leVal, List.length_cons, Nat.pow_succ]
    omega
theorem leVal_snoc : ∀ (l : List UInt8) (b : UInt8), leVal (l ++ [b]) = leVal l + 256 ^ l.length * b.toNat
  | [], b => by simp [leVal]
  | a :: r, b => by
    rw [List.cons_append, leVal, leVal_snoc r b, leVal, List.length_cons, Nat.pow_succ, Nat.mul_add, ← Nat.mul_assoc, Nat.mul_comm 256 (256 ^ r.length)]
    omega
theorem leVal_le : ∀ (k n : Nat), leVal (le k n) = n % 256 ^ k
  | 0, n => by simp [le, leVal, Nat.mod_one]
  | k + 1, n => by
    rw [le, leVal, leVal_le k, Nat.pow_succ, Nat.mul_comm (256 ^ k) 256, Nat.mod_mul]
    simp

theorem snoc_or (l : List UInt8) : l = [] ∨ ∃ m y, l = m ++ [y] := by
  rcases List.eq_nil_or_concat l with h | ⟨m, y, h⟩
  · exact .inl h
  · exact .inr ⟨m, y, by simpa using h⟩
theorem or_low (x : Nat) (y : UInt8) (h : x * 256 < 18446744073709551616) : bits .or .u64 ((x : Int) * 256) (y.toNat : Int) = ((x * 256 + y.toNat : Nat) : Int) := by
  have hy := y.toNat_lt
  have e : ((x : Int) * 256) = ((x * 256 : Nat) : Int) := by omega
  rw [e, bits_or_u64_nat _ _ h (by omega)]
  congr 1
  have h1 := Nat.shiftLeft_add_eq_or_of_lt (i := 8) (b := y.toNat) (by omega) x
  rw [Nat.shiftLeft_eq] at h1
  exact h1.symm
def sliceLen : Value → Nat | .slice _ n _ => n | _ => 0

theorem rdTake_le (L : List UInt8) (why pos k : Nat) : (rdTake L why pos k).1.length ≤ k := by unfold rdTake; split <;> simp; omega
theorem rdTake_val (L : List UInt8) (why pos k : Nat) : leVal (rdTake L why pos k).1 < 256 ^ k :=
  Nat.lt_of_lt_of_le (leVal_lt _) (Nat.pow_le_pow_right (by decide) (rdTake_le L why pos k))

/-- A text of at most 'most' bytes. -/
def rdText (L : List UInt8) (why pos most : Nat) : List UInt8 × Nat × Nat :=
  let T := rdTake L why pos 2
  let s := if most < leVal T.1 then rdStop T.2.1 T.2.2 3 pos else T.2
  rdTake L s.1 s.2 (leVal T.1)

/-- What End tells. -/
def rdEnd (L : List UInt8) (why pos : Nat) : Nat × Nat := if why = 0 then (if pos < L.length then (11, pos) else (0, 0)) else (why, pos)

/-- The address, if there is one, is one of the blocks that w' has and w has not. -/
def New (w w' : World) (A : Option Addr) : Prop := ∀ ad, A = some ad → w.heap.size ≤ ad.block ∧ ad.block < w'.heap.size

end Go.Proofs.Ytjffppfgappikaa
