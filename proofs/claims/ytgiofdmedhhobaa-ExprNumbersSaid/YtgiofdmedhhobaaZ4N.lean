/-
  Texts that belong together: The contracts of wire's Reader, and of bytes.Clone: what each method reads, where it stands behind it, and that it turns its own block alone. The contracts of package value: what is right, less, put, got and shown. The contracts of the document's own Writer (chapter 1) and Put (chapter 4): copies in new memory. The contracts of the document's own Reader (chapter 1) and Get (chapter 4), against the same plain functions as the program's. The document's own Reader: raw, number and what reads by them. The document's own Byte, Short, Long, Text and Get. The document's own Get (chapter 4): it gives what the program's Get gives, from the same bytes.
-/
import Derived.Test.YtgiofdmedhhobaaProg
import Derived.BigQuiet
import Derived.Deep.QuietTactic
import Derived.WalkMore
import Derived.ScopeJumps
import Derived.Lib.SliceRun
import Derived.Test.YtgiofdmedhhobaaZ2N
import Derived.Test.YtgiofdmedhhobaaZ3N
import Derived.Test.YtgiofdmedhhobaaZ0N
namespace Go.Proofs.Ytgiofdmedhhobaa
open Go.RowKit
set_option linter.unusedVariables false

variable {p : Nat} {A : Option Addr} {n cap : Nat} {L : List UInt8} {why pos : Nat} {w w' : World}
theorem set_heap {b : Nat} {cs : Array Value} {T : TypeId} (i : Nat) (x : Value) (h : w.heap[b]? = some (.cells cs T (0, 0))) : (w.setCell ⟨b, i, none⟩ x).heap[b]? = some (.cells (cs.setIfInBounds i x) T (0, 0)) := by
  simp only [World.setCell, Array.getElem?_modify, if_pos]
  rw [h]
  rfl
theorem But.set2 (b i j : Nat) (x y : Value) : But [b] w ((w.setCell ⟨b, i, none⟩ x).setCell ⟨b, j, none⟩ y) := (But.setCell ⟨b, i, none⟩ x (by simp)).then (But.setCell ⟨b, j, none⟩ y (by simp))

/-- 'b[lo:lo+k]', as the walk spells it. -/
theorem Bs.cut {l : List UInt8} {lo k : Nat} (h : Bs w A n cap l) (hk : lo + k ≤ n) : Bs w (if cap = lo then A else Option.map (fun x => x.add lo) A) (lo + k - lo) (cap - lo) ((l.drop lo).take k) := by
  have h1 := (h.from_ (k := lo) (by omega)).to (k := k) (by omega)
  rw [show lo + k - lo = k by omega]
  by_cases hn : 0 < n
  · obtain ⟨b, off, rfl, _⟩ := h.rd hn
    unfold Go.Proofs.Ytgiofdmedhhobaa.from_ at h1
    simpa [Addr.add_lit] using h1
  · have hl := h.len
    have hle := h.le
    have hmax := h.max
    refine ⟨by simp; omega, by omega, by omega, fun e => ?_, fun h0 => by omega⟩
    split at e
    · have := h.nil e; omega
    · have := h.nil (by simpa using e); omega
/-- How many bytes can still be read. -/
def rdLeft (L : List UInt8) (why pos : Nat) : Nat := if why = 0 then L.length - pos else 0
/-- The first error stays. -/
def rdStop (why pos e p : Nat) : Nat × Nat := if why = 0 then (e, p) else (why, pos)
/-- k bytes, or none if one is missing. -/
def rdTake (L : List UInt8) (why pos k : Nat) : List UInt8 × Nat × Nat :=
  if k ≤ rdLeft L why pos then ((L.drop pos).take k, why, pos + k) else ([], rdStop why pos 10 L.length)

/-- The number whose bytes these are, the lowest first. -/
def leVal : List UInt8 → Nat
  | [] => 0
  | b :: r => b.toNat + 256 * leVal r
theorem leVal_lt : ∀ l : List UInt8, leVal l < 256 ^ l.length
  | [] => by simp [leVal]
  | b :: r => by
    have h := leVal_lt r
    have hb := b.toNat_lt
    rw [leVal, List.length_cons, Nat.pow_succ]
    omega
theorem leVal_snoc : ∀ (l : List UInt8) (b : UInt8), leVal (l ++ [b]) = leVal l + 256 ^ l.length * b.toNat
  | [], b => by simp [leVal]
  | a :: r, b => by
    rw [List.cons_append, leVal, leVal_snoc r b, leVal, List.length_cons, Nat.pow_succ, Nat.mul_add, ← Nat.mul_assoc, Nat.mul_comm 256 (256 ^ r.length)]
    omega
theorem leVal_le : ∀ (k n : Nat), leVal (le k n) = n % 256 ^ k
  | 0, n => by simp [le, leVal, Nat.mod_one]
  | k + 1, n => by
    rw [le, leVal, leVal_le k, Nat.pow_succ, Nat.mul_comm (256 ^ k) 256, Nat.mod_mul]
    simp

theorem snoc_or (l : List UInt8) : l = [] ∨ ∃ m y, l = m ++ [y] := by
  rcases List.eq_nil_or_concat l with h | ⟨m, y, h⟩
  · exact .inl h
  · exact .inr ⟨m, y, by simpa using h⟩
theorem or_low (x : Nat) (y : UInt8) (h : x * 256 < 18446744073709551616) : bits .or .u64 ((x : Int) * 256) (y.toNat : Int) = ((x * 256 + y.toNat : Nat) : Int) := by
  have hy := y.toNat_lt
  have e : ((x : Int) * 256) = ((x * 256 : Nat) : Int) := by omega
  rw [e, bits_or_u64_nat _ _ h (by omega)]
  congr 1
  have h1 := Nat.shiftLeft_add_eq_or_of_lt (i := 8) (b := y.toNat) (by omega) x
  rw [Nat.shiftLeft_eq] at h1
  exact h1.symm
def sliceLen : Value → Nat | .slice _ n _ => n | _ => 0

theorem rdTake_le (L : List UInt8) (why pos k : Nat) : (rdTake L why pos k).1.length ≤ k := by unfold rdTake; split <;> simp; omega
theorem rdTake_val (L : List UInt8) (why pos k : Nat) : leVal (rdTake L why pos k).1 < 256 ^ k :=
  Nat.lt_of_lt_of_le (leVal_lt _) (Nat.pow_le_pow_right (by decide) (rdTake_le L why pos k))

/-- A text of at most 'most' bytes. -/
def rdText (L : List UInt8) (why pos most : Nat) : List UInt8 × Nat × Nat :=
  let T := rdTake L why pos 2
  let s := if most < leVal T.1 then rdStop T.2.1 T.2.2 3 pos else T.2
  rdTake L s.1 s.2 (leVal T.1)

/-- What End tells. -/
def rdEnd (L : List UInt8) (why pos : Nat) : Nat × Nat := if why = 0 then (if pos < L.length then (11, pos) else (0, 0)) else (why, pos)

/-- The address, if there is one, is one of the blocks that w' has and w has not. -/
def New (w w' : World) (A : Option Addr) : Prop := ∀ ad, A = some ad → w.heap.size ≤ ad.block ∧ ad.block < w'.heap.size

end Go.Proofs.Ytgiofdmedhhobaa

namespace Go.Proofs.Ytgiofdmedhhobaa
open Go.RowKit
set_option linter.unusedVariables false

/-- The Value of Kind k, N n, S s. -/
abbrev vv (k n : Int) (s : ByteArray) : Value := .agg #[.int .i64 k, .int .i64 n, .string s]
/-- P4.1: a value that is valid. -/
def rightV (k n : Int) (s : ByteArray) : Bool := if k = 1 then s.toList.isEmpty else if k = 2 then n == 0 && decide (s.size ≤ 40) else false

set_option maxRecDepth 100000 in
theorem value_right (k n : Int) (s : ByteArray) (w : World) :
    Calls Try.prog 52 #[vv k n s] w fun e w' => e = .returned (.bool (rightV k n s)) ∧ Ev w w' := by
  by_cases h1 : k = 1
  · subst h1
    go_enter Try.func52, Try.ntmps52
    go_wp2
    go_ret
    exact ⟨by simp [rightV], Ev.alloc _ _⟩
  · by_cases h2 : k = 2
    · subst h2
      by_cases h3 : n = 0
      · go_enter Try.func52, Try.ntmps52
        go_wp2
        go_ret
        exact ⟨by simp [rightV, h3, show ((s.size : Int) ≤ 40 ↔ s.size ≤ 40) by omega], Ev.alloc _ _⟩
      · go_enter Try.func52, Try.ntmps52
        go_wp2
        go_ret
        exact ⟨by simp [rightV, h3], Ev.alloc _ _⟩
    · go_enter Try.func52, Try.ntmps52
      go_wp2
      go_ret
      exact ⟨by simp [rightV, h1, h2], Ev.alloc _ _⟩
theorem Try.sizeVal : (Try.prog.info? 25).map (·.size) = some 3 := by kernel_rfl
/-- A result of type Value that lies in block g. -/
theorem ret_val {fn : Func} {q : Tmp} (h : fn.results = #[.cell q 25]) (tmps : Array Value) (w : World) (g : Nat) (k n : Int) (s : ByteArray)
    (hp : tmps.getD q undef = .pointer (some ⟨g, 0, none⟩)) (hg : w.heap[g]? = some (.cells #[.int .i64 k, .int .i64 n, .string s] 25 (0, 0))) :
    (results fn tmps).run Try.prog w = .ok (vv k n s) w :=
  results_cell_row h tmps w g 25 _ _ _ hp hg Try.underlying25 rfl Try.sizeVal

theorem value_num (n : Int) (w : World) :
    Calls Try.prog 53 #[.int .i64 n] w fun e w' => e = .returned (vv 1 n ⟨#[]⟩) ∧ Ev w w' := by
  go_enter Try.func53, Try.ntmps53
  go_wp2
  refine bodyPost_ret (ret_val rfl _ _ w.heap.size 1 n ⟨#[]⟩ rfl (heap_alloc_new w _)) rfl ?_
  exact ⟨rfl, Ev.alloc _ _⟩
theorem value_str (s : ByteArray) (w : World) :
    Calls Try.prog 54 #[.string s] w fun e w' => e = .returned (vv 2 0 s) ∧ Ev w w' := by
  go_enter Try.func54, Try.ntmps54
  go_wp2
  refine bodyPost_ret (ret_val rfl _ _ w.heap.size 2 0 s rfl (heap_alloc_new w _)) rfl ?_
  exact ⟨rfl, Ev.alloc _ _⟩

/-- P4.1: the order. Texts by their bytes. -/
def lessV (k n : Int) (s : ByteArray) (k' n' : Int) (s' : ByteArray) : Bool :=
  if rightV k n s && rightV k' n' s' then (if k = k' then (if k = 1 then decide (n < n') else Op.bytesLess s.toList s'.toList) else k == 1) else false

/-- The three cells of a value that is boxed at block g. -/
structure Boxed (g : Nat) (k n : Int) (s : ByteArray) (w : World) : Prop where
  blk : w.heap[g]? = some (.cells #[.int .i64 k, .int .i64 n, .string s] 25 (0, 0))
theorem Boxed.c0 {g : Nat} {k n : Int} {s : ByteArray} {w : World} (h : Boxed g k n s w) : w.cell? ⟨g, 0, none⟩ = some (.int .i64 k) := by rw [Lib.cell_of_heap h.blk]; rfl
theorem Boxed.c1 {g : Nat} {k n : Int} {s : ByteArray} {w : World} (h : Boxed g k n s w) : w.cell? ⟨g, 1, none⟩ = some (.int .i64 n) := by rw [Lib.cell_of_heap h.blk]; rfl
theorem Boxed.c2 {g : Nat} {k n : Int} {s : ByteArray} {w : World} (h : Boxed g k n s w) : w.cell? ⟨g, 2, none⟩ = some (.string s) := by rw [Lib.cell_of_heap h.blk]; rfl
theorem Boxed.ev {g : Nat} {k n : Int} {s : ByteArray} {w w' : World} (h : Boxed g k n s w) (he : Ev w w') : Boxed g k n s w' :=
  ⟨by rw [he.block g (Array.getElem?_eq_some_iff.1 h.blk).1]; exact h.blk⟩
theorem Boxed.but {K : List Nat} {g : Nat} {k n : Int} {s : ByteArray} {w w' : World} (h : Boxed g k n s w) (he : But K w w') (hg : g ∉ K) : Boxed g k n s w' := ⟨he.heap h.blk hg⟩
theorem Boxed.new (k n : Int) (s : ByteArray) (w : World) : Boxed w.heap.size k n s (w.alloc (.cells #[.int .i64 k, .int .i64 n, .string s] 25)) := ⟨heap_alloc_new w _⟩
/-- Two at once. -/
theorem Boxed.two (k n : Int) (s : ByteArray) (k' n' : Int) (s' : ByteArray) (w : World) : ∃ w0, w0 = (w.alloc (.cells #[.int .i64 k, .int .i64 n, .string s] 25)).alloc (.cells #[.int .i64 k', .int .i64 n', .string s'] 25) ∧ Boxed w.heap.size k n s w0 ∧ Boxed (w.heap.size + 1) k' n' s' w0 ∧ Ev w w0 := by
  refine ⟨_, rfl, (Boxed.new k n s w).ev (Ev.alloc _ _), ?_, (Ev.alloc _ _).trans (Ev.alloc _ _)⟩
  have := Boxed.new k' n' s' (w.alloc (.cells #[.int .i64 k, .int .i64 n, .string s] 25))
  simpa using this

set_option maxRecDepth 100000 in
set_option maxHeartbeats 800000 in
theorem value_less (k n : Int) (s : ByteArray) (k' n' : Int) (s' : ByteArray) (w : World) :
    Calls Try.prog 73 #[vv k n s, vv k' n' s'] w fun e w' => e = .returned (.bool (lessV k n s k' n' s')) ∧ Ev w w' := by
  have hR := Lib.hid (fun w1 => value_right k n s w1)
  have hR' := Lib.hid (fun w1 => value_right k' n' s' w1)
  have hE : lessV k n s k' n' s' = if rightV k n s && rightV k' n' s' then (if k = k' then (if k = 1 then decide (n < n') else Op.bytesLess s.toList s'.toList) else k == 1) else false := rfl
  rw [hE]
  clear hE
  generalize rightV k n s = r at *
  generalize rightV k' n' s' = r' at *
  obtain ⟨w0, hw0, B, B', hE0⟩ := Boxed.two k n s k' n' s' w
  have c0 := B.c0; have c1 := B.c1; have c2 := B.c2; have d0 := B'.c0; have d1 := B'.c1; have d2 := B'.c2
  go_enter Try.func73, Try.ntmps73
  cases r
  · go_wp2_with (first | ((with_reducible refine (hR.out _).mono ?_); rintro x w1 ⟨rfl, hE1⟩; rw [← hw0] at hE1))
    go_ret
    exact ⟨rfl, hE0.trans hE1⟩
  · cases r'
    · go_wp2_with (first | ((with_reducible refine (hR.out _).mono ?_); rintro x w1 ⟨rfl, hE1⟩; rw [← hw0] at hE1; have d0 := (B'.ev hE1).c0; have d1 := (B'.ev hE1).c1; have d2 := (B'.ev hE1).c2) | ((with_reducible refine (hR'.out _).mono ?_); rintro x w2 ⟨rfl, hE2⟩))
      go_ret
      exact ⟨rfl, (hE0.trans hE1).trans hE2⟩
    · by_cases hk : k = k'
      · subst hk
        by_cases h1 : k = 1
        · subst h1
          go_wp2_with (first | ((with_reducible refine (hR.out _).mono ?_); rintro x w1 ⟨rfl, hE1⟩; rw [← hw0] at hE1; have B1' := B'.ev hE1; have d0 := B1'.c0; have d1 := B1'.c1; have d2 := B1'.c2) | ((with_reducible refine (hR'.out _).mono ?_); rintro x w2 ⟨rfl, hE2⟩; have B2 := (B.ev hE1).ev hE2; have B2' := B1'.ev hE2; have c0 := B2.c0; have c1 := B2.c1; have c2 := B2.c2; have d0 := B2'.c0; have d1 := B2'.c1; have d2 := B2'.c2))
          go_ret
          exact ⟨by simp, (hE0.trans hE1).trans hE2⟩
        · go_wp2_with (first | ((with_reducible refine (hR.out _).mono ?_); rintro x w1 ⟨rfl, hE1⟩; rw [← hw0] at hE1; have B1' := B'.ev hE1; have d0 := B1'.c0; have d1 := B1'.c1; have d2 := B1'.c2) | ((with_reducible refine (hR'.out _).mono ?_); rintro x w2 ⟨rfl, hE2⟩; have B2 := (B.ev hE1).ev hE2; have B2' := B1'.ev hE2; have c0 := B2.c0; have c1 := B2.c1; have c2 := B2.c2; have d0 := B2'.c0; have d1 := B2'.c1; have d2 := B2'.c2))
          go_ret
          exact ⟨by simp, (hE0.trans hE1).trans hE2⟩
      · go_wp2_with (first | ((with_reducible refine (hR.out _).mono ?_); rintro x w1 ⟨rfl, hE1⟩; rw [← hw0] at hE1; have B1' := B'.ev hE1; have d0 := B1'.c0; have d1 := B1'.c1; have d2 := B1'.c2) | ((with_reducible refine (hR'.out _).mono ?_); rintro x w2 ⟨rfl, hE2⟩; have B2 := (B.ev hE1).ev hE2; have B2' := B1'.ev hE2; have c0 := B2.c0; have c1 := B2.c1; have c2 := B2.c2; have d0 := B2'.c0; have d1 := B2'.c1; have d2 := B2'.c2))
        go_ret
        exact ⟨by simp, (hE0.trans hE1).trans hE2⟩

/-- P4.2: what Put writes. -/
def putV (k n : Int) (s : ByteArray) : List UInt8 := le 1 (low k) ++ (if k = 1 then le 8 (low n) else textBytes s.data.toList)
theorem putV_length (k n : Int) (s : ByteArray) : (putV k n s).length ≤ s.size + 9 := by
  have : s.data.toList.length = s.size := by rw [Array.length_toList]; rfl
  unfold putV textBytes
  split <;> simp [le_length] <;> omega
theorem Wrote.after {p : Nat} {v v' : Value} {w w0 w' : World} (h : Ev w w0) (k : Wrote p v w0 v' w') : Wrote p v w v' w' := ⟨(But.of_ev h).then k.but, k.sprung.old h.size⟩
/-- P4.2: what is read for a value, be it whole or not, and where the Reader stands behind it. -/
def rdRaw (L : List UInt8) (why pos : Nat) : (Int × Int × List UInt8) × Nat × Nat :=
  let T := rdTake L why pos 1
  if leVal T.1 = 1 then ((1, wrap64 (leVal (rdTake L T.2.1 T.2.2 8).1 : Int), []), (rdTake L T.2.1 T.2.2 8).2)
  else if leVal T.1 = 2 then ((2, 0, (rdText L T.2.1 T.2.2 40).1), (rdText L T.2.1 T.2.2 40).2)
  else ((0, 0, []), rdStop T.2.1 T.2.2 12 T.2.2)
/-- P4.2: what Get gives. -/
def rdVal (L : List UInt8) (why pos : Nat) : (Int × Int × List UInt8) × Nat × Nat :=
  (if (rdRaw L why pos).2.1 = 0 then (rdRaw L why pos).1 else (0, 0, []), (rdRaw L why pos).2)

theorem Boxed.f {g : Nat} {k n : Int} {s : ByteArray} {w : World} (h : Boxed g k n s w) (i : Nat) : w.frozen? ⟨g, i, none⟩ = false := Lib.frozen_of_heap h.blk i
theorem Boxed.lt {g : Nat} {k n : Int} {s : ByteArray} {w : World} (h : Boxed g k n s w) : g < w.heap.size := (Array.getElem?_eq_some_iff.1 h.blk).1
/-- A value is stored into the box. -/
theorem Boxed.set {g : Nat} {k n : Int} {s : ByteArray} {w : World} (h : Boxed g k n s w) (k' n' : Int) (s' : ByteArray) :
    Boxed g k' n' s' (((w.setCell ⟨g, 0, none⟩ (.int .i64 k')).setCell ⟨g, 1, none⟩ (.int .i64 n')).setCell ⟨g, 2, none⟩ (.string s')) ∧
    But [g] w (((w.setCell ⟨g, 0, none⟩ (.int .i64 k')).setCell ⟨g, 1, none⟩ (.int .i64 n')).setCell ⟨g, 2, none⟩ (.string s')) :=
  ⟨⟨set_heap 2 _ (set_heap 1 _ (set_heap 0 _ h.blk))⟩, ((But.setCell ⟨g, 0, none⟩ _ (by simp)).then (But.setCell ⟨g, 1, none⟩ _ (by simp))).then (But.setCell ⟨g, 2, none⟩ _ (by simp))⟩
theorem Ev.of_drewN {w w' : World} (h : ∃ q, w' = w.drewN q) : Ev w w' := by
  obtain ⟨q, rfl⟩ := h
  exact Ev.drewN _ _
/-- What is stored into a result's own box turns nothing that was there. -/
theorem But.over {p g : Nat} {w w0 w3 w4 : World} (h0 : Ev w w0) (h : But [p] w0 w3) (h4 : But [g] w3 w4) (hg : w.heap.size ≤ g) : But [p] w w4 :=
  ((But.of_ev h0).then h).trans h4 (by simp; omega)
end Go.Proofs.Ytgiofdmedhhobaa

namespace Go.Proofs.Ytgiofdmedhhobaa
open Go.RowKit
set_option linter.unusedVariables false

/-- The call gives back a slice of new memory that holds l; what was there is as it was. -/
def GivesRow (l : List UInt8) (w : World) (e : Ending) (w' : World) : Prop := ∃ v, e = .returned v ∧ Row w' v l ∧ (∀ g, v.ownBlock = some g → w.heap.size ≤ g) ∧ Ev w w'

theorem made_bytes (w : World) : Row (w.alloc (.cells #[] 5)) (.slice (some ⟨w.heap.size, 0, none⟩) 0 0) [] := Row.of (base := 0) (World.ownsRow_made w #[] 0 (Nat.zero_le _) (by unfold maxLen; omega) rfl)
theorem low_byte (x : Int) : ((UInt8.ofNat (low x)).toNat : Int) = x % 256 := by
  have h := low_cast x
  simp
  omega
theorem low_byte8 (x : Int) : ((UInt8.ofNat (low x / 256)).toNat : Int) = x / 256 % 256 := by
  have h := low_cast x
  simp
  omega
theorem le1 (x : Int) : le 1 (low x) = [UInt8.ofNat (low x)] := rfl
theorem le2 (x : Int) : le 2 (low x) = [UInt8.ofNat (low x), UInt8.ofNat (low x / 256)] := rfl
theorem bs_one (w : World) (x : Int) : Bs (w.alloc (.cells #[.int .u8 (x % 256)] 5)) (some ⟨w.heap.size, 0, none⟩) 1 1 (le 1 (low x)) :=
  Bs.made (le 1 (low x)) _ (by rw [le1]; simp only [bvs, List.map_cons, List.map_nil, bv, low_byte]) (by simp [le_length])
theorem bs_two (w : World) (x : Int) : Bs (w.alloc (.cells #[.int .u8 (x % 256), .int .u8 (x / 256 % 256)] 5)) (some ⟨w.heap.size, 0, none⟩) 2 2 (le 2 (low x)) :=
  Bs.made (le 2 (low x)) _ (by rw [le2]; simp only [bvs, List.map_cons, List.map_nil, bv, low_byte, low_byte8]) (by simp [le_length])
/-- Behind two appends onto a row that the call has made itself nothing that was there has turned. -/
theorem Ev.rows {w w1 w2 : World} {v : Value} (h : Ev w w1) (hv : ∀ g, v.ownBlock = some g → w.heap.size ≤ g) (k : But (foot v) w1 w2) : Ev w w2 :=
  ((But.of_ev (K := []) h).trans k (fun x hx => .inr (hv x (mem_foot.1 hx)))).ev (by simp)
theorem Sprung.ge {w w1 : World} {v v' : Value} (h : Sprung w1 v v') (hs : w.heap.size ≤ w1.heap.size) (hv : ∀ g, v.ownBlock = some g → w.heap.size ≤ g) : ∀ g, v'.ownBlock = some g → w.heap.size ≤ g := fun g hg => by
  rcases h g hg with h1 | h1
  · exact hv g h1
  · omega

theorem le_bits (x : Int) (h0 : -9223372036854775808 ≤ x) (h1 : x ≤ 9223372036854775807) : ∀ i, i < 8 → ((UInt8.ofNat (low x / 256 ^ i)).toNat : Int) = x / 2 ^ (8 * i) % 256 := by
  intro i hi
  have h := low_cast x
  have e : i = 0 ∨ i = 1 ∨ i = 2 ∨ i = 3 ∨ i = 4 ∨ i = 5 ∨ i = 6 ∨ i = 7 := by omega
  rcases e with rfl | rfl | rfl | rfl | rfl | rfl | rfl | rfl <;> simp <;> omega

end Go.Proofs.Ytgiofdmedhhobaa

namespace Go.Proofs.Ytgiofdmedhhobaa
open Go.RowKit
set_option linter.unusedVariables false

/-- What they say: the first error and its place, or how far it has read. -/
structure Says (why pos at_ : Nat) (r : Bool) (y z : Nat) : Prop where
  no : why = 0 → r = false ∧ at_ = pos
  yes : why ≠ 0 → r = true ∧ y = why ∧ z = pos
variable {p : Nat} {A : Option Addr} {n cap : Nat} {L : List UInt8} {why pos at_ y z : Nat} {r : Bool} {w w' : World}
end Go.Proofs.Ytgiofdmedhhobaa

namespace Go.Proofs.Ytgiofdmedhhobaa
open Go.RowKit
set_option linter.unusedVariables false

/-- v is an empty slice at the head of an empty row. -/
def EmptyRow (v : Value) (w : World) : Prop := ∃ g, v = .slice (some ⟨g, 0, none⟩) 0 0 ∧ w.heap[g]? = some (.cells #[] 5 (0, 0))
theorem EmptyRow.mono : Mono EmptyRow := by
  rintro v w w' hE ⟨g, rfl, hg⟩
  exact ⟨g, rfl, by rw [hE.block g (Array.getElem?_eq_some_iff.1 hg).1]; exact hg⟩
theorem EmptyRow.new (w : World) : EmptyRow (.slice (some ⟨w.heap.size, 0, none⟩) 0 0) (w.alloc (.cells #[] 5)) := ⟨_, rfl, heap_alloc_new w _⟩
theorem run_build_empty {ρ : Operand → Value} {o : Oper} (ho : o.op = .buildSlice 101 0 #[]) (w : World) : (execOp ρ o).run Try.prog w = .ok (.value (.slice (some ⟨w.heap.size, 0, none⟩) 0 0)) (w.alloc (.cells #[] 5)) := by
  unfold execOp
  rw [ho]
  simp [go_sem]
theorem run_append_empty {P : Program} (ty : TypeId) (ht : P.underlying 101 = some (.slice 5)) (hi : (P.info? 5).map (fun i => (i.zero, i.size, i.bytes)) = some (some (.int .u8 0), 1, 1))
    (v : Value) (w : World) (hv : EmptyRow v w) (A : Option Addr) (m c : Nat) (l : List UInt8) (hB : Bs w A m c l) (hb : l.length ≤ 140737488355328) :
    ∃ v' w', (Builtin.append_ #[101, 101] ty #[v, .slice A m c]).run P w = .ok v' w' ∧ Holds l v' w' ∧ Ev w w' := by
  obtain ⟨g, rfl, hg⟩ := hv
  have hown : Row w (.slice (some ⟨g, 0, none⟩) 0 0) [] := ⟨by simp [bvs], .inr ⟨g, 0, #[], rfl, Nat.zero_le _, hg, Nat.le_refl _, by unfold maxLen; omega, rfl, rfl⟩⟩
  obtain ⟨v', w', hr, h1, h2, h3⟩ := run_append_row (P := P) (w := w) ty ht hi _ [] hown A m c l hB (by simpa using hb)
  refine ⟨v', w', hr, ?_, ?_⟩
  · obtain ⟨A', cap', rfl, hB', _⟩ := h1.bs
    rw [List.nil_append] at hB'
    exact ⟨A', _, cap', rfl, hB'⟩
  · refine ⟨h2.os, h2.tape, h2.output, h2.size, fun k hk => ?_⟩
    by_cases hkg : k = g
    · subst hkg
      obtain ⟨i, hi0, hz, hsz, hby⟩ := info_parts hi
      have hl := hB.len
      cases A with
      | none =>
        obtain ⟨rfl, rfl⟩ := hB.nil rfl
        have hr2 := run_append_owned_none (P := P) (w := w) 0 101 ty 5 i 1 ht hi0 _ _ _ hown
        rw [hr] at hr2
        simp only [Result.ok.injEq] at hr2
        rw [hr2.2]
      | some ad =>
        by_cases hm : m = 0
        · subst hm
          have hn : l = [] := List.eq_nil_of_length_eq_zero hl
          subst hn
          have hr2 := run_append_room (P := P) w 101 ty 5 i ht hi0 k 0 0 #[] hg ad 0 c [] (by simp) (by simp) (by simp) (by omega) (by simp)
          rw [hr] at hr2
          simp only [Result.ok.injEq] at hr2
          rw [hr2.2, setRow_heap w k #[] _ 5 (0, 0) hg, hg]
          simp
        · have hr2 := run_append_grow (P := P) w 101 ty 5 i (.int .u8 0) ht hi0 hz ⟨k, 0, none⟩ 0 0 [] (by simp) (by simp) ad m c (bvs l) (by rw [bvs_length, hl, hsz]; omega) (hB.cells ad rfl) (by omega) (by omega) (by rw [hby]; exact growslice_fits (by omega) (by omega))
          rw [hr] at hr2
          simp only [Result.ok.injEq] at hr2
          rw [hr2.2]
          exact ((Ev.drew w).trans (Ev.alloc w.drew _)).block k hk
    · exact h2.block k hk (fun hm => hkg (by have := mem_foot.1 hm; simp [Value.ownBlock] at this; exact this.symm))

variable {p : Nat} {A : Option Addr} {n cap : Nat} {L : List UInt8} {why pos : Nat} {w w' : World}
end Go.Proofs.Ytgiofdmedhhobaa

namespace Go.Proofs.Ytgiofdmedhhobaa
open Go.RowKit
set_option linter.unusedVariables false
variable {p : Nat} {A : Option Addr} {n cap : Nat} {L : List UInt8} {why pos : Nat} {w w' : World}

theorem take_err {L : List UInt8} {why pos k : Nat} (h : (rdTake L why pos k).2.1 ≠ 0) (hk : 0 < k) : (rdTake L why pos k).1 = [] := by
  by_cases hk2 : k ≤ rdLeft L why pos
  · simp only [rdTake, hk2, if_true] at h
    simp only [rdLeft, h, if_false] at hk2
    omega
  · simp only [rdTake, hk2, if_false]
theorem take_ok {L : List UInt8} {why pos k : Nat} (h : (rdTake L why pos k).2.1 = 0) : why = 0 := by
  by_cases hw : why = 0
  · exact hw
  · by_cases hk2 : k ≤ rdLeft L why pos
    · simpa only [rdTake, hk2, if_true] using h
    · simp [rdTake, hk2, rdStop, hw] at h
theorem take_refused (L : List UInt8) (why pos k : Nat) (hw : why ≠ 0) (hk : 0 < k) : rdTake L why pos k = ([], why, pos) := by
  have h2 : ¬ k ≤ rdLeft L why pos := by simp only [rdLeft, hw, if_false]; omega
  simp only [rdTake, h2, if_false, rdStop, hw]

end Go.Proofs.Ytgiofdmedhhobaa

namespace Go.Proofs.Ytgiofdmedhhobaa
open Go.RowKit
set_option linter.unusedVariables false
variable {p : Nat} {A : Option Addr} {n cap : Nat} {L : List UInt8} {why pos : Nat} {w w' : World}

end Go.Proofs.Ytgiofdmedhhobaa
