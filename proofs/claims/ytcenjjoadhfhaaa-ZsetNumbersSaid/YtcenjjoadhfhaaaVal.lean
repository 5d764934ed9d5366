/-
  The contracts of package value: what is right, less, put, got and shown.
-/
import Derived.Test.YtcenjjoadhfhaaaProg
import Derived.Test.YtcenjjoadhfhaaaBut
import Derived.Test.YtcenjjoadhfhaaaWriter
import Derived.Test.YtcenjjoadhfhaaaReader
import Derived.BigQuiet
import Derived.Deep.QuietTactic
namespace Go.Proofs.Ytcenjjoadhfhaaa
open Go.RowKit
set_option linter.unusedVariables false

/-- The Value of Kind k, N n, S s. -/
abbrev vv (k n : Int) (s : ByteArray) : Value := .agg #[.int .i64 k, .int .i64 n, .string s]
/-- P4.1: a value that is valid. -/
def rightV (k n : Int) (s : ByteArray) : Bool := if k = 1 then s.toList.isEmpty else if k = 2 then n == 0 && decide (s.size ≤ 40) else false

set_option maxRecDepth 100000 in
theorem value_right (k n : Int) (s : ByteArray) (w : World) :
    Calls Try.prog 43 #[vv k n s] w fun e w' => e = .returned (.bool (rightV k n s)) ∧ Ev w w' := by
  by_cases h1 : k = 1
  · subst h1
    go_enter Try.func43, Try.ntmps43
    go_wp2
    go_ret
    exact ⟨by simp [rightV], Ev.alloc _ _⟩
  · by_cases h2 : k = 2
    · subst h2
      by_cases h3 : n = 0
      · go_enter Try.func43, Try.ntmps43
        go_wp2
        go_ret
        exact ⟨by simp [rightV, h3, show ((s.size : Int) ≤ 40 ↔ s.size ≤ 40) by omega], Ev.alloc _ _⟩
      · go_enter Try.func43, Try.ntmps43
        go_wp2
        go_ret
        exact ⟨by simp [rightV, h3], Ev.alloc _ _⟩
    · go_enter Try.func43, Try.ntmps43
      go_wp2
      go_ret
      exact ⟨by simp [rightV, h1, h2], Ev.alloc _ _⟩
theorem Try.sizeVal : (Try.prog.info? 50).map (·.size) = some 3 := by kernel_rfl
/-- A result of type Value that lies in block g. -/
theorem ret_val {fn : Func} {q : Tmp} (h : fn.results = #[.cell q 50]) (tmps : Array Value) (w : World) (g : Nat) (k n : Int) (s : ByteArray)
    (hp : tmps.getD q undef = .pointer (some ⟨g, 0, none⟩)) (hg : w.heap[g]? = some (.cells #[.int .i64 k, .int .i64 n, .string s] 50 (0, 0))) :
    (results fn tmps).run Try.prog w = .ok (vv k n s) w :=
  results_cell_row h tmps w g 50 _ _ _ hp hg Try.underlying50 rfl Try.sizeVal

theorem value_num (n : Int) (w : World) :
    Calls Try.prog 65 #[.int .i64 n] w fun e w' => e = .returned (vv 1 n ⟨#[]⟩) ∧ Ev w w' := by
  go_enter Try.func65, Try.ntmps65
  go_wp2
  refine bodyPost_ret (ret_val rfl _ _ w.heap.size 1 n ⟨#[]⟩ rfl (heap_alloc_new w _)) rfl ?_
  exact ⟨rfl, Ev.alloc _ _⟩
theorem value_str (s : ByteArray) (w : World) :
    Calls Try.prog 66 #[.string s] w fun e w' => e = .returned (vv 2 0 s) ∧ Ev w w' := by
  go_enter Try.func66, Try.ntmps66
  go_wp2
  refine bodyPost_ret (ret_val rfl _ _ w.heap.size 2 0 s rfl (heap_alloc_new w _)) rfl ?_
  exact ⟨rfl, Ev.alloc _ _⟩

/-- P4.1: the order. Texts by their bytes. -/
def lessV (k n : Int) (s : ByteArray) (k' n' : Int) (s' : ByteArray) : Bool :=
  if rightV k n s && rightV k' n' s' then (if k = k' then (if k = 1 then decide (n < n') else Op.bytesLess s.toList s'.toList) else k == 1) else false

/-- The three cells of a value that is boxed at block g. -/
structure Boxed (g : Nat) (k n : Int) (s : ByteArray) (w : World) : Prop where
  blk : w.heap[g]? = some (.cells #[.int .i64 k, .int .i64 n, .string s] 50 (0, 0))
theorem Boxed.c0 {g : Nat} {k n : Int} {s : ByteArray} {w : World} (h : Boxed g k n s w) : w.cell? ⟨g, 0, none⟩ = some (.int .i64 k) := by rw [Lib.cell_of_heap h.blk]; rfl
theorem Boxed.c1 {g : Nat} {k n : Int} {s : ByteArray} {w : World} (h : Boxed g k n s w) : w.cell? ⟨g, 1, none⟩ = some (.int .i64 n) := by rw [Lib.cell_of_heap h.blk]; rfl
theorem Boxed.c2 {g : Nat} {k n : Int} {s : ByteArray} {w : World} (h : Boxed g k n s w) : w.cell? ⟨g, 2, none⟩ = some (.string s) := by rw [Lib.cell_of_heap h.blk]; rfl
theorem Boxed.ev {g : Nat} {k n : Int} {s : ByteArray} {w w' : World} (h : Boxed g k n s w) (he : Ev w w') : Boxed g k n s w' :=
  ⟨by rw [he.block g (Array.getElem?_eq_some_iff.1 h.blk).1]; exact h.blk⟩
theorem Boxed.but {K : List Nat} {g : Nat} {k n : Int} {s : ByteArray} {w w' : World} (h : Boxed g k n s w) (he : But K w w') (hg : g ∉ K) : Boxed g k n s w' := ⟨he.heap h.blk hg⟩
theorem Boxed.new (k n : Int) (s : ByteArray) (w : World) : Boxed w.heap.size k n s (w.alloc (.cells #[.int .i64 k, .int .i64 n, .string s] 50)) := ⟨heap_alloc_new w _⟩
/-- Two at once. -/
theorem Boxed.two (k n : Int) (s : ByteArray) (k' n' : Int) (s' : ByteArray) (w : World) : ∃ w0, w0 = (w.alloc (.cells #[.int .i64 k, .int .i64 n, .string s] 50)).alloc (.cells #[.int .i64 k', .int .i64 n', .string s'] 50) ∧ Boxed w.heap.size k n s w0 ∧ Boxed (w.heap.size + 1) k' n' s' w0 ∧ Ev w w0 := by
  refine ⟨_, rfl, (Boxed.new k n s w).ev (Ev.alloc _ _), ?_, (Ev.alloc _ _).trans (Ev.alloc _ _)⟩
  have := Boxed.new k' n' s' (w.alloc (.cells #[.int .i64 k, .int .i64 n, .string s] 50))
  simpa using this

set_option maxRecDepth 100000 in
set_option maxHeartbeats 800000 in
theorem value_less (k n : Int) (s : ByteArray) (k' n' : Int) (s' : ByteArray) (w : World) :
    Calls Try.prog 46 #[vv k n s, vv k' n' s'] w fun e w' => e = .returned (.bool (lessV k n s k' n' s')) ∧ Ev w w' := by
  have hR := Lib.hid (fun w1 => value_right k n s w1)
  have hR' := Lib.hid (fun w1 => value_right k' n' s' w1)
  have hE : lessV k n s k' n' s' = if rightV k n s && rightV k' n' s' then (if k = k' then (if k = 1 then decide (n < n') else Op.bytesLess s.toList s'.toList) else k == 1) else false := rfl
  rw [hE]
  clear hE
  generalize rightV k n s = r at *
  generalize rightV k' n' s' = r' at *
  obtain ⟨w0, hw0, B, B', hE0⟩ := Boxed.two k n s k' n' s' w
  have c0 := B.c0; have c1 := B.c1; have c2 := B.c2; have d0 := B'.c0; have d1 := B'.c1; have d2 := B'.c2
  go_enter Try.func46, Try.ntmps46
  cases r
  · go_wp2_with (first | ((with_reducible refine (hR.out _).mono ?_); rintro x w1 ⟨rfl, hE1⟩; rw [← hw0] at hE1))
    go_ret
    exact ⟨rfl, hE0.trans hE1⟩
  · cases r'
    · go_wp2_with (first | ((with_reducible refine (hR.out _).mono ?_); rintro x w1 ⟨rfl, hE1⟩; rw [← hw0] at hE1; have d0 := (B'.ev hE1).c0; have d1 := (B'.ev hE1).c1; have d2 := (B'.ev hE1).c2) | ((with_reducible refine (hR'.out _).mono ?_); rintro x w2 ⟨rfl, hE2⟩))
      go_ret
      exact ⟨rfl, (hE0.trans hE1).trans hE2⟩
    · by_cases hk : k = k'
      · subst hk
        by_cases h1 : k = 1
        · subst h1
          go_wp2_with (first | ((with_reducible refine (hR.out _).mono ?_); rintro x w1 ⟨rfl, hE1⟩; rw [← hw0] at hE1; have B1' := B'.ev hE1; have d0 := B1'.c0; have d1 := B1'.c1; have d2 := B1'.c2) | ((with_reducible refine (hR'.out _).mono ?_); rintro x w2 ⟨rfl, hE2⟩; have B2 := (B.ev hE1).ev hE2; have B2' := B1'.ev hE2; have c0 := B2.c0; have c1 := B2.c1; have c2 := B2.c2; have d0 := B2'.c0; have d1 := B2'.c1; have d2 := B2'.c2))
          go_ret
          exact ⟨by simp, (hE0.trans hE1).trans hE2⟩
        · go_wp2_with (first | ((with_reducible refine (hR.out _).mono ?_); rintro x w1 ⟨rfl, hE1⟩; rw [← hw0] at hE1; have B1' := B'.ev hE1; have d0 := B1'.c0; have d1 := B1'.c1; have d2 := B1'.c2) | ((with_reducible refine (hR'.out _).mono ?_); rintro x w2 ⟨rfl, hE2⟩; have B2 := (B.ev hE1).ev hE2; have B2' := B1'.ev hE2; have c0 := B2.c0; have c1 := B2.c1; have c2 := B2.c2; have d0 := B2'.c0; have d1 := B2'.c1; have d2 := B2'.c2))
          go_ret
          exact ⟨by simp, (hE0.trans hE1).trans hE2⟩
      · go_wp2_with (first | ((with_reducible refine (hR.out _).mono ?_); rintro x w1 ⟨rfl, hE1⟩; rw [← hw0] at hE1; have B1' := B'.ev hE1; have d0 := B1'.c0; have d1 := B1'.c1; have d2 := B1'.c2) | ((with_reducible refine (hR'.out _).mono ?_); rintro x w2 ⟨rfl, hE2⟩; have B2 := (B.ev hE1).ev hE2; have B2' := B1'.ev hE2; have c0 := B2.c0; have c1 := B2.c1; have c2 := B2.c2; have d0 := B2'.c0; have d1 := B2'.c1; have d2 := B2'.c2))
        go_ret
        exact ⟨by simp, (hE0.trans hE1).trans hE2⟩

/-- P4.2: what Put writes. -/
def putV (k n : Int) (s : ByteArray) : List UInt8 := le 1 (low k) ++ (if k = 1 then le 8 (low n) else textBytes s.data.toList)
theorem putV_length (k n : Int) (s : ByteArray) : (putV k n s).length ≤ s.size + 9 := by
  have : s.data.toList.length = s.size := by rw [Array.length_toList]; rfl
  unfold putV textBytes
  split <;> simp [le_length] <;> omega
theorem Wrote.after {p : Nat} {v v' : Value} {w w0 w' : World} (h : Ev w w0) (k : Wrote p v w0 v' w') : Wrote p v w v' w' := ⟨(But.of_ev h).then k.but, k.sprung.old h.size⟩
/-- P4.2: what is read for a value, be it whole or not, and where the Reader stands behind it. -/
def rdRaw (L : List UInt8) (why pos : Nat) : (Int × Int × List UInt8) × Nat × Nat :=
  let T := rdTake L why pos 1
  if leVal T.1 = 1 then ((1, wrap64 (leVal (rdTake L T.2.1 T.2.2 8).1 : Int), []), (rdTake L T.2.1 T.2.2 8).2)
  else if leVal T.1 = 2 then ((2, 0, (rdText L T.2.1 T.2.2 40).1), (rdText L T.2.1 T.2.2 40).2)
  else ((0, 0, []), rdStop T.2.1 T.2.2 12 T.2.2)
/-- P4.2: what Get gives. -/
def rdVal (L : List UInt8) (why pos : Nat) : (Int × Int × List UInt8) × Nat × Nat :=
  (if (rdRaw L why pos).2.1 = 0 then (rdRaw L why pos).1 else (0, 0, []), (rdRaw L why pos).2)

set_option maxRecDepth 100000 in
set_option maxHeartbeats 800000 in
theorem value_failed {p : Nat} {A : Option Addr} {n cap : Nat} {L : List UInt8} {why pos : Nat} (w : World) (h : Rd p A n cap L why pos w) :
    Calls Try.prog 61 #[.pointer (some ⟨p, 0, none⟩)] w fun e w' => e = .returned (.bool (why != 0)) ∧ ∃ q, w' = w.drewN q := by
  have HE := Lib.hid (reader_end w h)
  have HF := Lib.hid (fun q => reader_left (w.drewN q) (h.drewN q))
  by_cases hw : why = 0
  · subst hw
    by_cases hp : pos < L.length
    · have e1 : rdEnd L 0 pos = (11, pos) := by simp [rdEnd, hp]
      have e2 : (0 : Int) < (rdLeft L 0 pos : Nat) := by simp [rdLeft]; omega
      rw [e1] at HE
      generalize rdLeft L 0 pos = left at *
      have e3 : ((left : Nat) : Int) ≠ 0 := by omega
      clear e1 hp
      go_enter Try.func61, Try.ntmps61
      go_wp2_with (first | ((with_reducible refine HE.out.mono ?_); rintro x w1 ⟨rfl, q, rfl⟩) | ((with_reducible refine (HF.out _).mono ?_); rintro x w2 ⟨rfl, q2, rfl⟩))
      go_ret
      exact ⟨by simp; omega, _, rfl⟩
    · have e1 : rdEnd L 0 pos = (0, 0) := by simp [rdEnd, hp]
      rw [e1] at HE
      clear e1 hp
      go_enter Try.func61, Try.ntmps61
      go_wp2_with (first | ((with_reducible refine HE.out.mono ?_); rintro x w1 ⟨rfl, q, rfl⟩))
      go_ret
      exact ⟨by simp, q, rfl⟩
  · have e1 : rdEnd L why pos = (why, pos) := by simp [rdEnd, hw]
    have e2 : rdLeft L why pos = 0 := by simp [rdLeft, hw]
    have e3 : ((why : Nat) : Int) ≠ 0 := by omega
    rw [e1] at HE
    rw [e2] at HF
    have HW := Lib.hid hw
    clear e1 e2 hw
    go_enter Try.func61, Try.ntmps61
    go_wp2_with (first | ((with_reducible refine HE.out.mono ?_); rintro x w1 ⟨rfl, q, rfl⟩) | ((with_reducible refine (HF.out _).mono ?_); rintro x w2 ⟨rfl, q2, rfl⟩))
    go_ret
    have a1 : (why != 0) = true := bne_iff_ne.2 HW.out
    have a2 : (((why : Nat) : Int) != 0) = true := bne_iff_ne.2 e3
    exact ⟨by simp only [a1]; exact congrArg (fun b => Ending.returned (Value.bool b)) a2, _, rfl⟩

theorem Boxed.f {g : Nat} {k n : Int} {s : ByteArray} {w : World} (h : Boxed g k n s w) (i : Nat) : w.frozen? ⟨g, i, none⟩ = false := Lib.frozen_of_heap h.blk i
theorem Boxed.lt {g : Nat} {k n : Int} {s : ByteArray} {w : World} (h : Boxed g k n s w) : g < w.heap.size := (Array.getElem?_eq_some_iff.1 h.blk).1
/-- A value is stored into the box. -/
theorem Boxed.set {g : Nat} {k n : Int} {s : ByteArray} {w : World} (h : Boxed g k n s w) (k' n' : Int) (s' : ByteArray) :
    Boxed g k' n' s' (((w.setCell ⟨g, 0, none⟩ (.int .i64 k')).setCell ⟨g, 1, none⟩ (.int .i64 n')).setCell ⟨g, 2, none⟩ (.string s')) ∧
    But [g] w (((w.setCell ⟨g, 0, none⟩ (.int .i64 k')).setCell ⟨g, 1, none⟩ (.int .i64 n')).setCell ⟨g, 2, none⟩ (.string s')) :=
  ⟨⟨set_heap 2 _ (set_heap 1 _ (set_heap 0 _ h.blk))⟩, ((But.setCell ⟨g, 0, none⟩ _ (by simp)).then (But.setCell ⟨g, 1, none⟩ _ (by simp))).then (But.setCell ⟨g, 2, none⟩ _ (by simp))⟩
theorem Ev.of_drewN {w w' : World} (h : ∃ q, w' = w.drewN q) : Ev w w' := by
  obtain ⟨q, rfl⟩ := h
  exact Ev.drewN _ _
/-- What is stored into a result's own box turns nothing that was there. -/
theorem But.over {p g : Nat} {w w0 w3 w4 : World} (h0 : Ev w w0) (h : But [p] w0 w3) (h4 : But [g] w3 w4) (hg : w.heap.size ≤ g) : But [p] w w4 :=
  ((But.of_ev h0).then h).trans h4 (by simp; omega)
theorem Rd.over {p : Nat} {A : Option Addr} {n cap : Nat} {L : List UInt8} {why pos g : Nat} {w3 w4 : World} (h : Rd p A n cap L why pos w3) (h4 : But [g] w3 w4) (hp : p ≠ g) (hA : ∀ ad, A = some ad → ad.block ≠ g) : Rd p A n cap L why pos w4 :=
  h.but h4 (by simpa using hp) (fun ad e => by simpa using hA ad e)

set_option maxRecDepth 100000 in
set_option maxHeartbeats 1600000 in
theorem value_read {p : Nat} {A : Option Addr} {n cap : Nat} {L : List UInt8} {why pos : Nat} (w : World) (h : Rd p A n cap L why pos w) :
    Calls Try.prog 60 #[.pointer (some ⟨p, 0, none⟩)] w fun e w' => e = .returned (vv (rdRaw L why pos).1.1 (rdRaw L why pos).1.2.1 ⟨(rdRaw L why pos).1.2.2.toArray⟩) ∧
      Rd p A n cap L (rdRaw L why pos).2.1 (rdRaw L why pos).2.2 w' ∧ But [p] w w' := by
  have HC := Lib.hid (fun w1 (h1 : Rd p A n cap L why pos w1) => reader_byte w1 h1)
  have hp := h.lt
  have hA : ∀ ad, A = some ad → ad.block ≠ w.heap.size := fun ad e => by have := (h.apart ad e).2; omega
  have hg : w.heap.size ∉ [p] := by simp; omega
  have hpg : p ≠ w.heap.size := by omega
  obtain ⟨w0, hw0⟩ : ∃ w0, w0 = w.alloc (.cells #[.int .i64 0, .int .i64 0, .string ⟨#[]⟩] 50) := ⟨_, rfl⟩
  have B : Boxed w.heap.size 0 0 ⟨#[]⟩ w0 := hw0 ▸ Boxed.new 0 0 ⟨#[]⟩ w
  have hE0 : Ev w w0 := hw0 ▸ Ev.alloc w _
  obtain ⟨T, hT⟩ : ∃ T, T = rdTake L why pos 1 := ⟨_, rfl⟩
  have hG : rdRaw L why pos = if leVal T.1 = 1 then ((1, wrap64 (leVal (rdTake L T.2.1 T.2.2 8).1 : Int), []), (rdTake L T.2.1 T.2.2 8).2)
    else if leVal T.1 = 2 then ((2, 0, (rdText L T.2.1 T.2.2 40).1), (rdText L T.2.1 T.2.2 40).2)
    else ((0, 0, []), rdStop T.2.1 T.2.2 12 T.2.2) := by rw [hT]; rfl
  rw [hG]
  clear hG
  rw [← hT] at HC
  obtain ⟨M, e1, q1⟩ := T
  simp only at *
  clear hT
  generalize leVal M = k at *
  by_cases h1 : k = 1
  · subst h1
    simp only [if_pos]
    have HL := Lib.hid (fun w1 (h1 : Rd p A n cap L e1 q1 w1) => reader_long w1 h1)
    generalize rdTake L e1 q1 8 = N at *
    have HN := Lib.hid (fun w1 => value_num (wrap64 (leVal N.1 : Int)) w1)
    generalize wrap64 (leVal N.1 : Int) = x at *
    go_enter Try.func60, Try.ntmps60
    go_wp2_with (first | (rw [← hw0]; (with_reducible refine (HC.out w0 (h.ev hE0)).mono ?_); rintro y w1 ⟨rfl, hR1, hB1⟩; have B1 := B.but hB1 hg) | ((with_reducible refine (HL.out _ hR1).mono ?_); rintro y w2 ⟨rfl, hR2, hB2⟩; have B2 := B1.but hB2 hg) | ((with_reducible refine (HN.out _).mono ?_); rintro y w3 ⟨rfl, hE3⟩; have B3 := B2.ev hE3; have c0 := B3.c0; have c1 := B3.c1; have c2 := B3.c2; have f0 := B3.f 0; have f1 := B3.f 1; have f2 := B3.f 2))
    have BS := B3.set 1 x ⟨#[]⟩
    refine bodyPost_ret (ret_val rfl _ _ w.heap.size 1 x ⟨#[]⟩ rfl BS.1.blk) rfl ?_
    exact ⟨rfl, (hR2.ev hE3).over BS.2 hpg hA, But.over hE0 ((hB1.then hB2).then (But.of_ev hE3)) BS.2 (Nat.le_refl _)⟩
  · by_cases h2 : k = 2
    · subst h2
      simp only [if_pos, if_neg (show ¬ (2 = 1) by decide)]
      have HL := Lib.hid (fun w1 (h1 : Rd p A n cap L e1 q1 w1) => reader_text 40 w1 h1 (by decide))
      generalize rdText L e1 q1 40 = N at *
      have HN := Lib.hid (fun w1 => value_str ⟨N.1.toArray⟩ w1)
      go_enter Try.func60, Try.ntmps60
      go_wp2_with (first | (rw [← hw0]; (with_reducible refine (HC.out w0 (h.ev hE0)).mono ?_); rintro y w1 ⟨rfl, hR1, hB1⟩; have B1 := B.but hB1 hg) | (refine (HL.out _ hR1).mono ?_; rintro y w2 ⟨rfl, hR2, hB2⟩; have B2 := B1.but hB2 hg) | ((with_reducible refine (HN.out _).mono ?_); rintro y w3 ⟨rfl, hE3⟩; have B3 := B2.ev hE3; have c0 := B3.c0; have c1 := B3.c1; have c2 := B3.c2; have f0 := B3.f 0; have f1 := B3.f 1; have f2 := B3.f 2))
      have BS := B3.set 2 0 ⟨N.1.toArray⟩
      refine bodyPost_ret (ret_val rfl _ _ w.heap.size 2 0 ⟨N.1.toArray⟩ rfl BS.1.blk) rfl ?_
      exact ⟨rfl, (hR2.ev hE3).over BS.2 hpg hA, But.over hE0 ((hB1.then hB2).then (But.of_ev hE3)) BS.2 (Nat.le_refl _)⟩
    · simp only [if_neg h1, if_neg h2]
      have HL := Lib.hid (fun w1 (h1 : Rd p A n cap L e1 q1 w1) => reader_fail 12 w1 h1)
      generalize rdStop e1 q1 12 q1 = N at *
      go_enter Try.func60, Try.ntmps60
      go_wp2_with (first | (rw [← hw0]; (with_reducible refine (HC.out w0 (h.ev hE0)).mono ?_); rintro y w1 ⟨rfl, hR1, hB1⟩; have B1 := B.but hB1 hg) | (refine (HL.out _ hR1).mono ?_; rintro y w2 ⟨rfl, hR2, hB2⟩; have B2 := B1.but hB2 hg; have c0 := B2.c0; have c1 := B2.c1; have c2 := B2.c2; have f0 := B2.f 0; have f1 := B2.f 1; have f2 := B2.f 2))
      have BS := B2.set 0 0 ⟨#[]⟩
      refine bodyPost_ret (ret_val rfl _ _ w.heap.size 0 0 ⟨#[]⟩ rfl BS.1.blk) rfl ?_
      exact ⟨rfl, hR2.over BS.2 hpg hA, But.over hE0 (hB1.then hB2) BS.2 (Nat.le_refl _)⟩

set_option maxRecDepth 100000 in
set_option maxHeartbeats 1600000 in
theorem value_get {p : Nat} {A : Option Addr} {n cap : Nat} {L : List UInt8} {why pos : Nat} (w : World) (h : Rd p A n cap L why pos w) :
    Calls Try.prog 54 #[.pointer (some ⟨p, 0, none⟩)] w fun e w' => e = .returned (vv (rdVal L why pos).1.1 (rdVal L why pos).1.2.1 ⟨(rdVal L why pos).1.2.2.toArray⟩) ∧
      Rd p A n cap L (rdVal L why pos).2.1 (rdVal L why pos).2.2 w' ∧ But [p] w w' := by
  have HC := Lib.hid (fun w1 (h1 : Rd p A n cap L why pos w1) => value_read w1 h1)
  have hp := h.lt
  have hA : ∀ ad, A = some ad → ad.block ≠ w.heap.size := fun ad e => by have := (h.apart ad e).2; omega
  have hg : w.heap.size ∉ [p] := by simp; omega
  have hpg : p ≠ w.heap.size := by omega
  obtain ⟨w0, hw0⟩ : ∃ w0, w0 = w.alloc (.cells #[.int .i64 0, .int .i64 0, .string ⟨#[]⟩] 50) := ⟨_, rfl⟩
  have B : Boxed w.heap.size 0 0 ⟨#[]⟩ w0 := hw0 ▸ Boxed.new 0 0 ⟨#[]⟩ w
  have hE0 : Ev w w0 := hw0 ▸ Ev.alloc w _
  unfold rdVal
  generalize rdRaw L why pos = R at *
  obtain ⟨⟨K, N, S⟩, e1, q1⟩ := R
  simp only at *
  have HF := Lib.hid (fun w1 (h1 : Rd p A n cap L e1 q1 w1) => value_failed w1 h1)
  by_cases he : e1 = 0
  · subst he
    simp only [if_pos, show ((0 : Nat) != 0) = false from rfl] at *
    go_enter Try.func54, Try.ntmps54
    go_wp2_with (first | (rw [← hw0]; (with_reducible refine (HC.out w0 (h.ev hE0)).mono ?_); rintro y w1 ⟨rfl, hR1, hB1⟩; have B1 := B.but hB1 hg) | (refine (HF.out _ (hR1.ev (Ev.alloc _ _))).mono ?_; rintro y w2 ⟨rfl, hq⟩; have hE2 := Ev.of_drewN hq; have V2 := (Boxed.new K N ⟨S.toArray⟩ w1).ev hE2; have B2 := (B1.ev (Ev.alloc _ _)).ev hE2; have c0 := B2.c0; have c1 := B2.c1; have c2 := B2.c2; have f0 := B2.f 0; have f1 := B2.f 1; have f2 := B2.f 2; have d0 := V2.c0; have d1 := V2.c1; have d2 := V2.c2; have hR2 := (hR1.ev (Ev.alloc _ _)).ev hE2; have hB2 := (hB1.then (But.alloc _)).then (But.of_ev hE2); clear hq))
    have BS := B2.set K N ⟨S.toArray⟩
    refine bodyPost_ret (ret_val rfl _ _ w.heap.size K N ⟨S.toArray⟩ rfl BS.1.blk) rfl ?_
    exact ⟨rfl, hR2.over BS.2 hpg hA, But.over hE0 hB2 BS.2 (Nat.le_refl _)⟩
  · have hb : (e1 != 0) = true := bne_iff_ne.2 he
    simp only [if_neg he, hb] at *
    clear hb he
    go_enter Try.func54, Try.ntmps54
    go_wp2_with (first | (rw [← hw0]; (with_reducible refine (HC.out w0 (h.ev hE0)).mono ?_); rintro y w1 ⟨rfl, hR1, hB1⟩; have B1 := B.but hB1 hg) | (refine (HF.out _ (hR1.ev (Ev.alloc _ _))).mono ?_; rintro y w2 ⟨rfl, hq⟩; have hE2 := Ev.of_drewN hq; have V2 := (Boxed.new K N ⟨S.toArray⟩ w1).ev hE2; have B2 := (B1.ev (Ev.alloc _ _)).ev hE2; have c0 := B2.c0; have c1 := B2.c1; have c2 := B2.c2; have f0 := B2.f 0; have f1 := B2.f 1; have f2 := B2.f 2; have d0 := V2.c0; have d1 := V2.c1; have d2 := V2.c2; have hR2 := (hR1.ev (Ev.alloc _ _)).ev hE2; have hB2 := (hB1.then (But.alloc _)).then (But.of_ev hE2); clear hq))
    have BS := B2.set 0 0 ⟨#[]⟩
    refine bodyPost_ret (ret_val rfl _ _ w.heap.size 0 0 ⟨#[]⟩ rfl BS.1.blk) rfl ?_
    exact ⟨rfl, hR2.over BS.2 hpg hA, But.over hE0 hB2 BS.2 (Nat.le_refl _)⟩
theorem value_get_nil (w : World) :
    Calls Try.prog 54 #[.pointer none] w fun e w' => e = .returned (vv 0 0 ⟨#[]⟩) ∧ Ev w w' := by
  go_enter Try.func54, Try.ntmps54
  go_wp2
  refine bodyPost_ret (ret_val rfl _ _ w.heap.size 0 0 ⟨#[]⟩ rfl (heap_alloc_new w _)) rfl ?_
  exact ⟨rfl, Ev.alloc _ _⟩
end Go.Proofs.Ytcenjjoadhfhaaa
