/-
  The contracts of wire's Reader, and of bytes.Clone: what each method reads, where it stands behind it, and that it turns its own block alone.
-/
import Derived.Test.YtdfoangkjeoomaaProg
import Derived.Test.YtdfoangkjeoomaaBut
import Derived.Test.YtdfoangkjeoomaaWriter
import Derived.BigQuiet
import Derived.Deep.QuietTactic
import Derived.WalkMore
import Derived.ScopeJumps
import Derived.Lib.SliceRun
namespace Go.Proofs.Ytdfoangkjeoomaa
open Go.RowKit
set_option linter.unusedVariables false

/-- Block p is a wire.Reader over the bytes L: its error and its offset. -/
structure Rd (p : Nat) (A : Option Addr) (n cap : Nat) (L : List UInt8) (why pos : Nat) (w : World) : Prop where
  blk : w.heap[p]? = some (.cells #[.slice A n cap, .int .i64 (why : Int), .int .i64 (pos : Int)] 67 (0, 0))
  bs : Bs w A n cap L
  apart : ∀ ad, A = some ad → ad.block ≠ p ∧ ad.block < w.heap.size
  inside : pos ≤ n
  small : n ≤ 140737488355328
variable {p : Nat} {A : Option Addr} {n cap : Nat} {L : List UInt8} {why pos : Nat} {w w' : World}
theorem Rd.lt (h : Rd p A n cap L why pos w) : p < w.heap.size := (Array.getElem?_eq_some_iff.1 h.blk).1
theorem Rd.c0 (h : Rd p A n cap L why pos w) : w.cell? ⟨p, 0, none⟩ = some (.slice A n cap) := by rw [Lib.cell_of_heap h.blk]; rfl
theorem Rd.c1 (h : Rd p A n cap L why pos w) : w.cell? ⟨p, 1, none⟩ = some (.int .i64 (why : Int)) := by rw [Lib.cell_of_heap h.blk]; rfl
theorem Rd.c2 (h : Rd p A n cap L why pos w) : w.cell? ⟨p, 2, none⟩ = some (.int .i64 (pos : Int)) := by rw [Lib.cell_of_heap h.blk]; rfl
theorem Rd.f (h : Rd p A n cap L why pos w) (i : Nat) : w.frozen? ⟨p, i, none⟩ = false := Lib.frozen_of_heap h.blk i
theorem Rd.but {K : List Nat} (h : Rd p A n cap L why pos w) (hb : But K w w') (hp : p ∉ K) (hA : ∀ ad, A = some ad → ad.block ∉ K) : Rd p A n cap L why pos w' :=
  ⟨hb.heap h.blk hp, h.bs.but hb hA, fun ad e => ⟨(h.apart ad e).1, Nat.lt_of_lt_of_le (h.apart ad e).2 hb.size⟩, h.inside, h.small⟩
theorem Rd.ev (h : Rd p A n cap L why pos w) (hb : Ev w w') : Rd p A n cap L why pos w' := h.but (But.of_ev (K := []) hb) (by simp) (by simp)
theorem Rd.drewN (h : Rd p A n cap L why pos w) (q : Nat) : Rd p A n cap L why pos (w.drewN q) := h.ev (Ev.drewN w q)
theorem Rd.set (h : Rd p A n cap L why pos w) {why' pos' : Nat} (hw : w'.heap[p]? = some (.cells #[.slice A n cap, .int .i64 (why' : Int), .int .i64 (pos' : Int)] 67 (0, 0))) (hb : But [p] w w') (hi : pos' ≤ n) : Rd p A n cap L why' pos' w' :=
  ⟨hw, h.bs.but hb (fun ad e hm => (h.apart ad e).1 (by simpa using hm)), fun ad e => ⟨(h.apart ad e).1, Nat.lt_of_lt_of_le (h.apart ad e).2 hb.size⟩, hi, h.small⟩
theorem set_heap {b : Nat} {cs : Array Value} {T : TypeId} (i : Nat) (x : Value) (h : w.heap[b]? = some (.cells cs T (0, 0))) : (w.setCell ⟨b, i, none⟩ x).heap[b]? = some (.cells (cs.setIfInBounds i x) T (0, 0)) := by
  simp only [World.setCell, Array.getElem?_modify, if_pos]
  rw [h]
  rfl
theorem But.set2 (b i j : Nat) (x y : Value) : But [b] w ((w.setCell ⟨b, i, none⟩ x).setCell ⟨b, j, none⟩ y) := (But.setCell ⟨b, i, none⟩ x (by simp)).then (But.setCell ⟨b, j, none⟩ y (by simp))

/-- 'b[lo:lo+k]', as the walk spells it. -/
theorem Bs.cut {l : List UInt8} {lo k : Nat} (h : Bs w A n cap l) (hk : lo + k ≤ n) : Bs w (if cap = lo then A else Option.map (fun x => x.add lo) A) (lo + k - lo) (cap - lo) ((l.drop lo).take k) := by
  have h1 := (h.from_ (k := lo) (by omega)).to (k := k) (by omega)
  rw [show lo + k - lo = k by omega]
  by_cases hn : 0 < n
  · obtain ⟨b, off, rfl, _⟩ := h.rd hn
    unfold Go.Proofs.Ytdfoangkjeoomaa.from_ at h1
    simpa [Addr.add_lit] using h1
  · have hl := h.len
    have hle := h.le
    have hmax := h.max
    refine ⟨by simp; omega, by omega, by omega, fun e => ?_, fun h0 => by omega⟩
    split at e
    · have := h.nil e; omega
    · have := h.nil (by simpa using e); omega
/-- How many bytes can still be read. -/
def rdLeft (L : List UInt8) (why pos : Nat) : Nat := if why = 0 then L.length - pos else 0
/-- The first error stays. -/
def rdStop (why pos e p : Nat) : Nat × Nat := if why = 0 then (e, p) else (why, pos)
/-- k bytes, or none if one is missing. -/
def rdTake (L : List UInt8) (why pos k : Nat) : List UInt8 × Nat × Nat :=
  if k ≤ rdLeft L why pos then ((L.drop pos).take k, why, pos + k) else ([], rdStop why pos 10 L.length)

set_option maxRecDepth 100000 in
theorem reader_left (w : World) (h : Rd p A n cap L why pos w) :
    Calls Try.prog 34 #[.pointer (some ⟨p, 0, none⟩)] w fun e w' => e = .returned (.int .i64 (rdLeft L why pos : Int)) ∧ ∃ q, w' = w.drewN q := by
  have h0 := h.c0; have h1 := h.c1; have h2 := h.c2
  have hl := h.bs.len; have hi := h.inside; have hs := h.small
  by_cases hw : why = 0
  · have hr : ((rdLeft L why pos : Nat) : Int) = (n : Int) - pos := by simp [rdLeft, hw]; omega
    rw [hr]
    subst hw
    clear hr
    have HL := Lib.hid hl; clear hl
    go_enter Try.func34, Try.ntmps34
    go_wp2
    go_quiet (fail)
    go_wp2
    go_ret
    exact ⟨rfl, _, rfl⟩
  · have hr : rdLeft L why pos = 0 := by simp [rdLeft, hw]
    rw [hr]
    go_enter Try.func34, Try.ntmps34
    go_wp2
    go_ret
    exact ⟨rfl, 0, rfl⟩

set_option maxRecDepth 100000 in
theorem reader_stop (e q : Nat) (w : World) (h : Rd p A n cap L why pos w) (hq : q ≤ n) :
    Calls Try.prog 32 #[.pointer (some ⟨p, 0, none⟩), .int .i64 (e : Int), .int .i64 (q : Int)] w fun x w' => x = .returned (.tuple #[]) ∧ Rd p A n cap L (rdStop why pos e q).1 (rdStop why pos e q).2 w' ∧ But [p] w w' := by
  have h1 := h.c1; have h2 := h.c2
  have f1 := h.f 1; have f2 := h.f 2
  by_cases hw : why = 0
  · subst hw
    go_enter Try.func32, Try.ntmps32
    go_wp2
    go_end0
    refine ⟨by trivial, h.set ?_ (But.set2 _ _ _ _ _) hq, But.set2 _ _ _ _ _⟩
    exact set_heap 2 _ (set_heap 1 _ h.blk)
  · go_enter Try.func32, Try.ntmps32
    go_wp2
    go_end0
    simp only [rdStop, hw, if_false]
    exact ⟨by trivial, h, But.refl _ _⟩

set_option maxRecDepth 100000 in
set_option maxHeartbeats 800000 in
theorem reader_take (k : Nat) (w : World) (h : Rd p A n cap L why pos w) (hk : k ≤ 140737488355328) :
    Calls Try.prog 30 #[.pointer (some ⟨p, 0, none⟩), .int .i64 (k : Int)] w fun e w' => ∃ A' n' cap', e = .returned (.slice A' n' cap') ∧ Bs w' A' n' cap' (rdTake L why pos k).1 ∧
      Rd p A n cap L (rdTake L why pos k).2.1 (rdTake L why pos k).2.2 w' ∧ But [p] w w' := by
  have h0 := h.c0; have h2 := h.c2; have f2 := h.f 2
  have hl := h.bs.len; have hi := h.inside; have hs := h.small; have hcap := h.bs.le; have hmax := h.bs.max
  have HC := Lib.hid (reader_left w h)
  by_cases hw : k ≤ rdLeft L why pos
  · have hp : pos + k ≤ n := by unfold rdLeft at hw; split at hw <;> omega
    have e : rdTake L why pos k = ((L.drop pos).take k, why, pos + k) := by simp [rdTake, hw]
    rw [e]
    have hz : ((rdLeft L why pos : Nat) : Int) ≥ k := by omega
    have HS : ∀ q, Rd p A n cap L why (pos + k) (((w.drewN q).setCell ⟨p, 2, none⟩ (.int .i64 (pos + k : Int)))) := fun q => (h.drewN q).set (by have := set_heap 2 (.int .i64 (pos + k : Int)) (h.drewN q).blk; simpa using this) (But.setCell ⟨p, 2, none⟩ _ (by simp)) hp
    have HB : ∀ q, But [p] w (((w.drewN q).setCell ⟨p, 2, none⟩ (.int .i64 (pos + k : Int)))) := fun q => (But.of_ev (Ev.drewN w q)).then (But.setCell ⟨p, 2, none⟩ _ (by simp))
    have HL := Lib.hid hl; have HE := Lib.hid e
    generalize rdLeft L why pos = left at *
    clear hl e
    go_enter Try.func30, Try.ntmps30
    go_wp2_with (refine HC.out.mono ?_; rintro x w' ⟨rfl, q, rfl⟩)
    have R1 := HS q
    have B1 := HB q
    generalize (w.drewN q).setCell ⟨p, 2, none⟩ (.int .i64 (pos + k : Int)) = w1 at *
    have g0 := R1.c0
    have g2 := R1.c2
    have b1 : (pos : Int) ≤ pos + k := by omega
    have b2 : (pos : Int) + k ≤ cap := by omega
    simp only [Int.natCast_add] at g2
    go_quiet (fail)
    have HBs := (R1.drewN nq).bs.cut hp
    rw [show pos + k - pos = k by omega] at HBs ⊢
    generalize (if cap = pos then A else Option.map (fun x => x.add pos) A) = A1 at *
    go_wp2
    go_ret
    exact ⟨_, _, _, rfl, HBs, R1.drewN nq, B1.then (But.of_ev (Ev.drewN _ _))⟩
  · have e : rdTake L why pos k = ([], rdStop why pos 10 L.length) := by simp [rdTake, hw]
    rw [e, hl]
    have HE := Lib.hid e
    have HT : ∀ q, Hid _ := fun q => Lib.hid (reader_stop 10 n (w.drewN q) (h.drewN q) (Nat.le_refl _))
    generalize rdLeft L why pos = left at *
    clear hl e
    go_enter Try.func30, Try.ntmps30
    go_wp2_with (first | (refine HC.out.mono ?_; rintro x w' ⟨rfl, q, rfl⟩) | (refine ((HT _).out).mono ?_; rintro x w' ⟨rfl, hR, hB⟩))
    go_ret
    exact ⟨_, _, _, rfl, Bs.nil_ _, hR, (But.of_ev (Ev.drewN w q)).then hB⟩

/-- The number whose bytes these are, the lowest first. -/
def leVal : List UInt8 → Nat
  | [] => 0
  | b :: r => b.toNat + 256 * leVal r
theorem leVal_lt : ∀ l : List UInt8, leVal l < 256 ^ l.length
  | [] => by simp [leVal]
  | b :: r => by
    have h := leVal_lt r
    have hb := b.toNat_lt
    rw [leVal, List.length_cons, Nat.pow_succ]
    omega
theorem leVal_snoc : ∀ (l : List UInt8) (b : UInt8), leVal (l ++ [b]) = leVal l + 256 ^ l.length * b.toNat
  | [], b => by simp [leVal]
  | a :: r, b => by
    rw [List.cons_append, leVal, leVal_snoc r b, leVal, List.length_cons, Nat.pow_succ, Nat.mul_add, ← Nat.mul_assoc, Nat.mul_comm 256 (256 ^ r.length)]
    omega
theorem leVal_le : ∀ (k n : Nat), leVal (le k n) = n % 256 ^ k
  | 0, n => by simp [le, leVal, Nat.mod_one]
  | k + 1, n => by
    rw [le, leVal, leVal_le k, Nat.pow_succ, Nat.mul_comm (256 ^ k) 256, Nat.mod_mul]
    simp

theorem snoc_or (l : List UInt8) : l = [] ∨ ∃ m y, l = m ++ [y] := by
  rcases List.eq_nil_or_concat l with h | ⟨m, y, h⟩
  · exact .inl h
  · exact .inr ⟨m, y, by simpa using h⟩
theorem or_low (x : Nat) (y : UInt8) (h : x * 256 < 18446744073709551616) : bits .or .u64 ((x : Int) * 256) (y.toNat : Int) = ((x * 256 + y.toNat : Nat) : Int) := by
  have hy := y.toNat_lt
  have e : ((x : Int) * 256) = ((x * 256 : Nat) : Int) := by omega
  rw [e, bits_or_u64_nat _ _ h (by omega)]
  congr 1
  have h1 := Nat.shiftLeft_add_eq_or_of_lt (i := 8) (b := y.toNat) (by omega) x
  rw [Nat.shiftLeft_eq] at h1
  exact h1.symm
def sliceLen : Value → Nat | .slice _ n _ => n | _ => 0

set_option maxRecDepth 100000 in
set_option maxHeartbeats 1600000 in
theorem reader_number (k : Nat) (w : World) (h : Rd p A n cap L why pos w) (hk : k ≤ 8) :
    Calls Try.prog 26 #[.pointer (some ⟨p, 0, none⟩), .int .i64 (k : Int)] w fun e w' => e = .returned (.int .u64 (leVal (rdTake L why pos k).1 : Int)) ∧
      Rd p A n cap L (rdTake L why pos k).2.1 (rdTake L why pos k).2.2 w' ∧ But [p] w w' := by
  have HC := Lib.hid (reader_take k w h (by omega))
  have hlen : (rdTake L why pos k).1.length ≤ k := by unfold rdTake; split <;> simp; omega
  generalize rdTake L why pos k = T at *
  obtain ⟨M, e, q⟩ := T
  simp only at *
  go_enter Try.func26, Try.ntmps26
  go_wp2
  refine wp_scope_jumps 0 (fun a' w2 => ∃ (M' : List UInt8) (x : Nat) (A' : Option Addr) (n' cap' : Nat) (u7 u8 u9 u10 u11 u12 u13 u14 u15 u16 u17 u18 u19 u20 u21 u22 u23 u24 u25 u26 u27 u28 : Value), a' = { tmps := #[.pointer (some ⟨p, 0, none⟩), .int .i64 (k : Int), undef, undef, .int .u64 0, .int .u64 (x : Int), .slice A' n' cap', u7, u8, u9, u10, u11, u12, u13, u14, u15, u16, u17, u18, u19, u20, u21, u22, u23, u24, u25, u26, u27, u28], defers := [] } ∧ Bs w2 A' n' cap' M' ∧ Rd p A n cap L e q w2 ∧ But [p] w w2 ∧ x * 256 ^ n' + leVal M' = leVal M ∧ n' ≤ 8) (fun a' _ => sliceLen (a'.tmps.getD 6 undef)) rfl ?_ ?_
  · go_wp2_with (refine HC.out.mono ?_; rintro x w' ⟨A', n', cap', rfl, hB, hR, hbut⟩)
    go_step3
    have HL := Lib.hid hB.len
    have hl := hB.len
    rcases snoc_or M with rfl | ⟨M0, y, rfl⟩
    · obtain rfl : n' = 0 := by simpa using hl.symm
      clear hl
      go_wp2
      simp only [Exit.jump]
      go_ret
      exact ⟨rfl, hR, hbut⟩
    · obtain ⟨m, hm⟩ : ∃ m, m = M0.length := ⟨_, rfl⟩
      obtain rfl : n' = m + 1 := by rw [hm]; simpa using hl.symm
      obtain ⟨b, off, rfl, hlt, hc⟩ := hB.rd (by omega)
      have hcl := hc m (by omega)
      rw [show (M0 ++ [y]).getD m 0 = y by rw [hm]; simp] at hcl
      have hle := hB.le
      have hmx := hB.max
      have hy := y.toNat_lt
      have hm8 : m + 1 ≤ 8 := by simp at hlen; omega
      have HM := Lib.hid hm
      have HO := Lib.hid (or_low 0 y (by omega))
      simp only [Nat.zero_mul] at HO
      clear hc hl hm hlen
      go_wp2
      go_step3
      have hO := HO.out
      simp only [Int.natCast_zero, Int.zero_mul, Nat.zero_add] at hO
      rw [hO]
      have hm := HM.out
      have hB0 := hB.to (k := m) (by omega)
      rw [hm, List.take_left, ← hm] at hB0
      refine ⟨rfl, M0, y.toNat, _, m, cap', _, _, _, _, _, _, _, _, _, _, _, _, _, _, _, _, _, _, _, _, _, _, rfl, hB0, hR, hbut, ?_, by omega⟩
      rw [leVal_snoc, ← hm, Nat.mul_comm, Nat.add_comm]
  · rintro a' w2 ⟨M', x, A', n', cap', u7, u8, u9, u10, u11, u12, u13, u14, u15, u16, u17, u18, u19, u20, u21, u22, u23, u24, u25, u26, u27, u28, rfl, hB, hR, hbut, hv, h8⟩
    have hl := hB.len
    have hMl := leVal_lt M
    have hMp : 256 ^ M.length ≤ 256 ^ 8 := Nat.pow_le_pow_right (by decide) (by omega)
    rcases snoc_or M' with rfl | ⟨M0, y, rfl⟩
    · obtain rfl : n' = 0 := by simpa using hl.symm
      have e : x = leVal M := by simpa [leVal] using hv
      clear hl hMl hMp hv
      go_wp2
      simp only [Exit.jump]
      go_ret
      exact ⟨rfl, hR, hbut⟩
    · obtain ⟨m, hm⟩ : ∃ m, m = M0.length := ⟨_, rfl⟩
      obtain rfl : n' = m + 1 := by rw [hm]; simpa using hl.symm
      obtain ⟨b, off, rfl, hlt, hc⟩ := hB.rd (by omega)
      have hcl := hc m (by omega)
      rw [show (M0 ++ [y]).getD m 0 = y by rw [hm]; simp] at hcl
      have hle := hB.le
      have hmx := hB.max
      have hy := y.toNat_lt
      have hx : x * 256 < 18446744073709551616 := by
        have h1 : 256 ≤ 256 ^ (m + 1) := by rw [Nat.pow_succ]; have := Nat.pow_pos (n := m) (show 0 < 256 by decide); omega
        have h2 := Nat.mul_le_mul_left x h1
        omega
      have HO := Lib.hid (or_low x y hx)
      have HV : Hid ((x * 256 + y.toNat) * 256 ^ m + leVal M0 = leVal M) := by
        rw [leVal_snoc, ← hm, Nat.pow_succ, Nat.mul_comm (256 ^ m) 256, ← Nat.mul_assoc] at hv
        rw [Nat.add_mul, Nat.mul_comm y.toNat]
        exact Lib.hid (by omega)
      have HM := Lib.hid hm
      clear hc hl hm hv hMl hMp
      go_wp2
      go_step3
      rw [HO.out]
      have hm := HM.out
      have hB0 := hB.to (k := m) (by omega)
      rw [hm, List.take_left, ← hm] at hB0
      exact ⟨rfl, ⟨M0, x * 256 + y.toNat, _, m, cap', _, _, _, _, _, _, _, _, _, _, _, _, _, _, _, _, _, _, _, _, _, _, rfl, hB0, hR, hbut, HV.out, by omega⟩, by simp [sliceLen]⟩

theorem rdTake_le (L : List UInt8) (why pos k : Nat) : (rdTake L why pos k).1.length ≤ k := by unfold rdTake; split <;> simp; omega
theorem rdTake_val (L : List UInt8) (why pos k : Nat) : leVal (rdTake L why pos k).1 < 256 ^ k :=
  Nat.lt_of_lt_of_le (leVal_lt _) (Nat.pow_le_pow_right (by decide) (rdTake_le L why pos k))

set_option maxRecDepth 100000 in
theorem reader_short (w : World) (h : Rd p A n cap L why pos w) :
    Calls Try.prog 31 #[.pointer (some ⟨p, 0, none⟩)] w fun e w' => e = .returned (.int .i64 (leVal (rdTake L why pos 2).1 : Int)) ∧
      Rd p A n cap L (rdTake L why pos 2).2.1 (rdTake L why pos 2).2.2 w' ∧ But [p] w w' := by
  have HC := Lib.hid (reader_number 2 w h (by omega))
  have hv := rdTake_val L why pos 2
  generalize rdTake L why pos 2 = T at *
  go_enter Try.func31, Try.ntmps31
  go_wp2_with (refine HC.out.mono ?_; rintro x w' ⟨rfl, hR, hB⟩)
  go_ret
  exact ⟨rfl, hR, hB⟩

set_option maxRecDepth 100000 in
theorem reader_long (w : World) (h : Rd p A n cap L why pos w) :
    Calls Try.prog 18 #[.pointer (some ⟨p, 0, none⟩)] w fun e w' => e = .returned (.int .i64 (wrap64 (leVal (rdTake L why pos 8).1 : Int))) ∧
      Rd p A n cap L (rdTake L why pos 8).2.1 (rdTake L why pos 8).2.2 w' ∧ But [p] w w' := by
  have HC := Lib.hid (reader_number 8 w h (by omega))
  generalize rdTake L why pos 8 = T at *
  go_enter Try.func18, Try.ntmps18
  go_wp2_with (refine HC.out.mono ?_; rintro x w' ⟨rfl, hR, hB⟩)
  go_ret
  exact ⟨rfl, hR, hB⟩

/-- A text of at most 'most' bytes. -/
def rdText (L : List UInt8) (why pos most : Nat) : List UInt8 × Nat × Nat :=
  let T := rdTake L why pos 2
  let s := if most < leVal T.1 then rdStop T.2.1 T.2.2 3 pos else T.2
  rdTake L s.1 s.2 (leVal T.1)

set_option maxRecDepth 100000 in
set_option maxHeartbeats 800000 in
theorem reader_text (most : Nat) (w : World) (h : Rd p A n cap L why pos w) (hm : most ≤ 65535) :
    Calls Try.prog 27 #[.pointer (some ⟨p, 0, none⟩), .int .i64 (most : Int)] w fun e w' => e = .returned (.string ⟨(rdText L why pos most).1.toArray⟩) ∧
      Rd p A n cap L (rdText L why pos most).2.1 (rdText L why pos most).2.2 w' ∧ But [p] w w' := by
  have h2 := h.c2
  have hi := h.inside
  have HC := Lib.hid (reader_short w h)
  have hv := rdTake_val L why pos 2
  by_cases hk : most < leVal (rdTake L why pos 2).1
  · have e : rdText L why pos most = rdTake L (rdStop (rdTake L why pos 2).2.1 (rdTake L why pos 2).2.2 3 pos).1 (rdStop (rdTake L why pos 2).2.1 (rdTake L why pos 2).2.2 3 pos).2 (leVal (rdTake L why pos 2).1) := by simp [rdText, hk]
    rw [e]
    generalize rdTake L why pos 2 = T at *
    obtain ⟨M, e1, q1⟩ := T
    simp only at *
    generalize leVal M = k at *
    have hS := fun w1 (h1 : Rd p A n cap L e1 q1 w1) => reader_stop 3 pos w1 h1 hi
    generalize rdStop e1 q1 3 pos = s at *
    have hT := fun w1 (h1 : Rd p A n cap L s.1 s.2 w1) => reader_take k w1 h1 (by omega)
    simp only [show ((3 : Nat) : Int) = 3 from rfl] at hS
    have HS := Lib.hid hS
    have HT := Lib.hid hT
    clear hS hT e
    go_enter Try.func27, Try.ntmps27
    go_wp2_with (first | ((with_reducible refine HC.out.mono ?_); rintro x w1 ⟨rfl, hR1, hB1⟩) | ((with_reducible refine (HS.out _ hR1).mono ?_); rintro x w2 ⟨rfl, hR2, hB2⟩) | ((with_reducible refine (HT.out _ hR2).mono ?_); rintro x w3 ⟨A3, n3, cap3, rfl, hbs, hR3, hB3⟩; have hst := hbs.str (P := Try.prog) 32 9 5 Try.underlying32 Try.underlying5 Try.underlying9))
    go_ret
    exact ⟨rfl, hR3, (hB1.then hB2).then hB3⟩
  · have e : rdText L why pos most = rdTake L (rdTake L why pos 2).2.1 (rdTake L why pos 2).2.2 (leVal (rdTake L why pos 2).1) := by simp [rdText, hk]
    rw [e]
    generalize rdTake L why pos 2 = T at *
    obtain ⟨M, e1, q1⟩ := T
    simp only at *
    generalize leVal M = k at *
    have HT := Lib.hid (fun w1 (h1 : Rd p A n cap L e1 q1 w1) => reader_take k w1 h1 (by omega))
    clear e
    go_enter Try.func27, Try.ntmps27
    go_wp2_with (first | ((with_reducible refine HC.out.mono ?_); rintro x w1 ⟨rfl, hR1, hB1⟩) | ((with_reducible refine (HT.out _ hR1).mono ?_); rintro x w3 ⟨A3, n3, cap3, rfl, hbs, hR3, hB3⟩; have hst := hbs.str (P := Try.prog) 32 9 5 Try.underlying32 Try.underlying5 Try.underlying9))
    go_ret
    exact ⟨rfl, hR3, hB1.then hB3⟩

/-- What End tells. -/
def rdEnd (L : List UInt8) (why pos : Nat) : Nat × Nat := if why = 0 then (if pos < L.length then (11, pos) else (0, 0)) else (why, pos)

/-- The address, if there is one, is one of the blocks that w' has and w has not. -/
def New (w w' : World) (A : Option Addr) : Prop := ∀ ad, A = some ad → w.heap.size ≤ ad.block ∧ ad.block < w'.heap.size

set_option maxRecDepth 100000 in
/-- bytes.Clone: a copy in new memory. -/
theorem clone_any (A : Option Addr) (n cap : Nat) (l : List UInt8) (w : World) (h : Bs w A n cap l) (hn : n ≤ 140737488355328) :
    Calls Try.prog 25 #[.slice A n cap] w fun e w' => ∃ A' cap', e = .returned (.slice A' n cap') ∧ Bs w' A' n cap' l ∧ New w w' A' ∧ Ev w w' := by
  have hl := h.len
  have q22 : ∀ (w : World) (a : Option Addr) (n c n' c' : Nat), (binOp .eql 32 (.slice a n c) (.slice none n' c')).run Try.prog w = .ok (.bool a.isNone) w := fun w a n c n' c' => Lib.run_eql_slice_nil w 32 5 a n c n' c' Try.underlying32
  cases A with
  | none =>
    obtain ⟨rfl, rfl⟩ := h.nil rfl
    clear hl
    go_enter Try.func25, Try.ntmps25
    go_wp2
    go_ret
    exact ⟨none, 0, rfl, h, (fun _ e => by cases e), Ev.refl _⟩
  | some ad =>
    have HL := Lib.hid hl
    clear hl
    go_enter Try.func25, Try.ntmps25
    have hE : Row (w.alloc (.cells #[] 5)) (.slice (some ⟨w.heap.size, 0, none⟩) 0 0) [] := Row.of (base := 0) (World.ownsRow_made w #[] 0 (Nat.zero_le _) (by unfold maxLen; omega) rfl)
    go_wp2_with (at_builtin; refine wpList_append_row rfl (.tmp 5) (.tmp 6) rfl Try.underlying32 Try.infoU8 (.slice (some ⟨w.heap.size, 0, none⟩) 0 0) [] rfl hE (some ad) n cap l rfl (h.below (Ev.alloc _ _)) (by rw [HL.out]; simpa using hn) ?_; intro v1 w1 hr1 hb1 hs1; obtain ⟨A1, cap1, rfl, hB1, hO1, _⟩ := hr1.bs)
    go_ret
    have hl := HL.out
    simp only [List.nil_append] at hB1 ⊢
    rw [hl] at hB1 ⊢
    refine ⟨A1, cap1, rfl, hB1, fun x hx => ⟨?_, hr1.lt (hO1 x hx)⟩, (But.ev (K := [w.heap.size]) ((But.alloc (K := [w.heap.size]) _).then (hb1.wide (by simp [foot, Value.ownBlock]))) (by simp))⟩
    rcases hs1 x.block (hO1 x hx) with h3 | h3
    · simp [Value.ownBlock] at h3; omega
    · simp at h3; omega

set_option maxRecDepth 100000 in
theorem new_reader (A : Option Addr) (n cap : Nat) (l : List UInt8) (w : World) (h : Bs w A n cap l) (hn : n ≤ 140737488355328) :
    Calls Try.prog 17 #[.slice A n cap] w fun e w' => ∃ p A' cap', e = .returned (.pointer (some ⟨p, 0, none⟩)) ∧ Rd p A' n cap' l 0 0 w' ∧ w.heap.size ≤ p ∧ New w w' A' ∧ Ev w w' := by
  have HC := Lib.hid (clone_any A n cap l w h hn)
  go_enter Try.func17, Try.ntmps17
  go_wp2_with (refine HC.out.mono ?_; rintro x w1 ⟨A1, cap1, rfl, hB1, hA1, hE1⟩)
  go_ret
  have hs := hE1.size
  refine ⟨w1.heap.size, A1, cap1, rfl, ⟨heap_alloc_new w1 _, hB1.below (Ev.alloc _ _), fun ad e => ?_, Nat.zero_le _, hn⟩, hs, fun ad e => ⟨(hA1 ad e).1, by have := (hA1 ad e).2; simp; omega⟩, hE1.trans (Ev.alloc _ _)⟩
  have := (hA1 ad e).2
  exact ⟨by omega, by simp; omega⟩

set_option maxRecDepth 100000 in
theorem writer_done (p : Nat) (v : Value) (l : List UInt8) (w : World) (h : Wr p v l w) (hl : l.length ≤ 140737488355328) :
    Calls Try.prog 24 #[.pointer (some ⟨p, 0, none⟩)] w fun e w' => ∃ A' cap', e = .returned (.slice A' l.length cap') ∧ Bs w' A' l.length cap' l ∧ New w w' A' ∧ Ev w w' := by
  have hc := h.cell
  obtain ⟨A, cap, rfl, hB, _⟩ := h.2.bs
  have HC := Lib.hid (clone_any A l.length cap l w hB hl)
  generalize l.length = n at *
  go_enter Try.func24, Try.ntmps24
  go_wp2_with (refine HC.out.mono ?_; rintro x w1 ⟨A1, cap1, rfl, hB1, hA1, hE1⟩)
  go_ret
  exact ⟨A1, cap1, rfl, hB1, hA1, hE1⟩
end Go.Proofs.Ytdfoangkjeoomaa
