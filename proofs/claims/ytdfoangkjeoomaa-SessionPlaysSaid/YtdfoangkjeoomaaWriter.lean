/-
  The contracts of wire's Writer: what each method writes, and which blocks it may turn.
-/
import Derived.Test.YtdfoangkjeoomaaProg
import Derived.Test.YtdfoangkjeoomaaBut
import Derived.BigQuiet
import Derived.Deep.QuietTactic
namespace Go.Proofs.Ytdfoangkjeoomaa
open Go.RowKit
set_option linter.unusedVariables false

theorem Try.infoU8 : (Try.prog.info? 5).map (fun i => (i.zero, i.size, i.bytes)) = some (some (.int .u8 0), 1, 1) := by kernel_rfl

/-- The k lowest bytes of n, the lowest first. -/
def le : Nat → Nat → List UInt8
  | 0, _ => []
  | k + 1, n => UInt8.ofNat n :: le k (n / 256)
theorem le_length : ∀ (k n : Nat), (le k n).length = k
  | 0, _ => rfl
  | k + 1, n => by simp [le, le_length k]
theorem le_snoc : ∀ (k n : Nat), le (k + 1) n = le k n ++ [UInt8.ofNat (n / 256 ^ k)]
  | 0, n => by simp [le]
  | k + 1, n => by
    rw [le, le_snoc k (n / 256), le, List.cons_append, Nat.div_div_eq_div_mul, Nat.pow_succ, Nat.mul_comm]

/-- Block p is a Writer whose bytes are l, in the slice v. -/
def Wr (p : Nat) (v : Value) (l : List UInt8) (w : World) : Prop := w.heap[p]? = some (.cells #[v] 72 (0, 0)) ∧ Row w v l
/-- What a write may do: it turns the Writer's block and its row; the row may spring. -/
structure Wrote (p : Nat) (v : Value) (w : World) (v' : Value) (w' : World) : Prop where
  but : But (p :: foot v) w w'
  sprung : Sprung w v v'
theorem Wrote.refl (p : Nat) (v : Value) (w : World) : Wrote p v w v w := ⟨But.refl _ _, Sprung.refl _ _⟩
theorem Wrote.trans {p : Nat} {a b c : Value} {w w1 w2 : World} (h : Wrote p a w b w1) (k : Wrote p b w1 c w2) : Wrote p a w c w2 :=
  ⟨h.but.trans k.but fun x hx => by
    rcases List.mem_cons.1 hx with rfl | hx
    · exact .inl (by simp)
    · rcases h.sprung x (mem_foot.1 hx) with h1 | h1
      · exact .inl (List.mem_cons_of_mem _ (mem_foot.2 h1))
      · exact .inr h1, h.sprung.trans k.sprung h.but.size⟩
theorem Wr.lt {p : Nat} {v : Value} {l : List UInt8} {w : World} (h : Wr p v l w) : p < w.heap.size := (Array.getElem?_eq_some_iff.1 h.1).1
theorem Wr.ne {p : Nat} {v : Value} {l : List UInt8} {w : World} (h : Wr p v l w) : v.ownBlock ≠ some p := h.2.ne_block h.1 (by decide)
theorem Wr.cell {p : Nat} {v : Value} {l : List UInt8} {w : World} (h : Wr p v l w) : w.cell? ⟨p, 0, none⟩ = some v := by rw [Lib.cell_of_heap h.1]; rfl
theorem Wr.ev {p : Nat} {v : Value} {l : List UInt8} {w w' : World} (h : Wr p v l w) (he : Ev w w') : Wr p v l w' := ⟨by rw [he.block p h.lt]; exact h.1, h.2.ev he⟩
theorem Wr.but {K : List Nat} {p : Nat} {v : Value} {l : List UInt8} {w w' : World} (h : Wr p v l w) (he : But K w w') (hp : p ∉ K) (hv : ∀ g, v.ownBlock = some g → g ∉ K) : Wr p v l w' := ⟨he.heap h.1 hp, h.2.but he hv⟩
/-- The new row is laid into the Writer. -/
theorem Wr.put {p : Nat} {v v' : Value} {l l' : List UInt8} {w w1 : World} (h : Wr p v l w) (hr : Row w1 v' l') (hb : But (foot v) w w1) (hs : Sprung w v v') :
    Wr p v' l' (w1.setCell ⟨p, 0, none⟩ v') ∧ Wrote p v w v' (w1.setCell ⟨p, 0, none⟩ v') ∧ w1.cell? ⟨p, 0, none⟩ = some v ∧ w1.frozen? ⟨p, 0, none⟩ = false := by
  have hp : p ∉ foot v := fun hm => h.ne (mem_foot.1 hm)
  have h1 := hb.heap h.1 hp
  have hlt := (Array.getElem?_eq_some_iff.1 h1).1
  have hne : v'.ownBlock ≠ some p := hr.ne_block h1 (by decide)
  refine ⟨⟨?_, hr.but (But.setCell (K := [p]) ⟨p, 0, none⟩ v' (by simp)) (fun g hg hm => hne (by simp at hm; exact hm ▸ hg))⟩, ⟨?_, hs⟩, by rw [Lib.cell_of_heap h1]; rfl, Lib.frozen_of_heap h1 0⟩
  · simp only [World.setCell, Array.getElem?_modify, if_pos]
    rw [h1]
    rfl
  · exact (hb.wide (fun x hx => .inl (List.mem_cons_of_mem _ hx))).then (But.setCell _ _ (by simp))

/-- A byte that is laid by itself, as the source of an append. -/
theorem Bs.made {w : World} (l : List UInt8) (cs : Array Value) (h : cs = (bvs l).toArray) (hl : l.length ≤ 1000) : Bs (w.alloc (.cells cs 5)) (some ⟨w.heap.size, 0, none⟩) l.length l.length l := by
  subst h
  refine ⟨rfl, Nat.le_refl _, by omega, by simp, fun _ => ⟨_, 0, rfl, by simp, fun i hi => ?_⟩⟩
  rw [cell_of_row _ _ _ (bvs l).toArray 5 (0, 0) (heap_alloc_new w _)]
  rw [Nat.zero_add, List.getElem?_toArray]
  exact bvs_at hi
theorem Bs.made_one (w : World) (q : Nat) : Bs (w.alloc (.cells #[.int .u8 ((q : Int) % 256)] 5)) (some ⟨w.heap.size, 0, none⟩) 1 1 [UInt8.ofNat q] :=
  Bs.made [UInt8.ofNat q] _ (by simp [bvs, bv]) (by simp)
theorem Sprung.old {w w1 : World} {v v' : Value} (h : Sprung w1 v v') (hs : w.heap.size ≤ w1.heap.size) : Sprung w v v' := fun g hg => (h g hg).imp_right fun h1 => by omega

set_option maxRecDepth 100000 in
set_option maxHeartbeats 800000 in
theorem writer_number (p : Nat) (v : Value) (l : List UInt8) (n k : Nat) (w : World) (h : Wr p v l w) (hn : n < 18446744073709551616) (hk : k ≤ 8) (hl : l.length + k ≤ 140737488355328) :
    Calls Try.prog 28 #[.pointer (some ⟨p, 0, none⟩), .int .u64 (n : Int), .int .i64 (k : Int)] w fun e w' => e = .returned (.tuple #[]) ∧ ∃ v', Wr p v' (l ++ le k n) w' ∧ Wrote p v w v' w' := by
  go_enter Try.func28, Try.ntmps28
  go_wp2
  go_loopw [1, 7] (fun m i wr => ∃ (j : Nat) (vr : Value), j ≤ k ∧ i = .int .i64 (j : Int) ∧ m = .int .u64 ((n / 256 ^ j : Nat) : Int) ∧ Wr p vr (l ++ le j n) wr ∧ Wrote p v w vr wr) (fun _ i _ => k - (intOf i).toNat)
  case atStart => exact ⟨0, v, Nat.zero_le _, rfl, by simp, by simpa [le] using h, Wrote.refl _ _ _⟩
  case round =>
    obtain ⟨j, vr, hj, rfl, rfl, hW, hT⟩ := hrel
    by_cases hlt : j < k
    · have hc := hW.cell
      have hq : n / 256 ^ j < 18446744073709551616 := Nat.lt_of_le_of_lt (Nat.div_le_self _ _) hn
      have hq2 : n / 256 ^ (j + 1) = n / 256 ^ j / 256 := by rw [Nat.pow_succ, Nat.div_div_eq_div_mul]
      have hls := le_snoc j n
      generalize n / 256 ^ j = q at *
      have HLS := Lib.hid hls
      have HQ := Lib.hid hq2
      have hll : (l ++ le j n).length = l.length + j := by simp [le_length]
      have HLL := Lib.hid hll
      clear hls hq2 hll
      have HB := Lib.hid (Bs.made_one wr q)
      go_wp2_with (at_builtin; refine wpList_append_row rfl (.tmp 13) (.tmp 16) rfl Try.underlying32 Try.infoU8 vr (l ++ le j n) rfl (hW.2.ev (Ev.alloc _ _)) (some ⟨wr.heap.size, 0, none⟩) 1 1 [UInt8.ofNat q] rfl HB.out (by rw [HLL.out]; simp; omega) ?_; intro v1 w1 hr1 hb1 hs1; obtain ⟨A1, n1, cap1, rfl⟩ := hr1.form; obtain ⟨hW1, hT1, hc1, hf1⟩ := hW.put hr1 ((But.alloc _).then hb1) (hs1.old (by simp)); have HW1 := Lib.hid hW1; clear hW1 hr1 hb1 hs1)
      go_roundw
      case rel =>
        refine ⟨j + 1, _, by omega, by go_num, by rw [HQ.out]; go_num, ?_, hT.trans hT1⟩
        rw [HLS.out, ← List.append_assoc]
        exact HW1.out
      case measure => simp [intOf]; omega
    · obtain rfl : j = k := by omega
      go_wp2
      go_end0
      exact ⟨rfl, vr, hW, hT⟩

theorem wrap_nat (n : Nat) : ((n : Int) % 18446744073709551616) = ((n % 18446744073709551616 : Nat) : Int) := by omega
/-- The low bits of an integer, as a number. -/
def low (x : Int) : Nat := (x % 18446744073709551616).toNat
theorem low_lt (x : Int) : low x < 18446744073709551616 := by unfold low; omega
theorem low_cast (x : Int) : (low x : Int) = x % 18446744073709551616 := by unfold low; omega

set_option maxRecDepth 100000 in
theorem writer_short (p : Nat) (v : Value) (l : List UInt8) (x : Int) (w : World) (h : Wr p v l w) (hl : l.length + 8 ≤ 140737488355328) :
    Calls Try.prog 33 #[.pointer (some ⟨p, 0, none⟩), .int .i64 x] w fun e w' => e = .returned (.tuple #[]) ∧ ∃ v', Wr p v' (l ++ le 2 (low x)) w' ∧ Wrote p v w v' w' := by
  have hx := low_cast x
  have C := writer_number p v l (low x) 2 w h (low_lt x) (by omega) (by omega)
  rw [hx] at C
  have HC := Lib.hid C
  clear C hx
  go_enter Try.func33, Try.ntmps33
  go_wp2_with (refine HC.out.mono ?_; rintro e w' ⟨rfl, hw⟩)
  go_end0
  exact ⟨rfl, hw⟩

set_option maxRecDepth 100000 in
theorem writer_long (p : Nat) (v : Value) (l : List UInt8) (x : Int) (w : World) (h : Wr p v l w) (hl : l.length + 8 ≤ 140737488355328) :
    Calls Try.prog 22 #[.pointer (some ⟨p, 0, none⟩), .int .i64 x] w fun e w' => e = .returned (.tuple #[]) ∧ ∃ v', Wr p v' (l ++ le 8 (low x)) w' ∧ Wrote p v w v' w' := by
  have hx := low_cast x
  have C := writer_number p v l (low x) 8 w h (low_lt x) (by omega) (by omega)
  rw [hx] at C
  have HC := Lib.hid C
  clear C hx
  go_enter Try.func22, Try.ntmps22
  go_wp2_with (refine HC.out.mono ?_; rintro e w' ⟨rfl, hw⟩)
  go_end0
  exact ⟨rfl, hw⟩

/-- What Text writes. -/
def textBytes (s : List UInt8) : List UInt8 := le 2 s.length ++ s

set_option maxRecDepth 100000 in
set_option maxHeartbeats 400000 in
theorem writer_text (p : Nat) (v : Value) (l : List UInt8) (s : ByteArray) (w : World) (h : Wr p v l w) (hl : l.length + s.size + 8 ≤ 140737488355328) :
    Calls Try.prog 29 #[.pointer (some ⟨p, 0, none⟩), .string s] w fun e w' => e = .returned (.tuple #[]) ∧ ∃ v', Wr p v' (l ++ textBytes s.data.toList) w' ∧ Wrote p v w v' w' := by
  have hlow : low (s.size : Int) = s.size := by unfold low; omega
  have C := writer_short p v l s.size w h (by omega)
  rw [hlow] at C
  have HC := Lib.hid C
  clear C hlow
  go_enter Try.func29, Try.ntmps29
  go_wp2_with (first | (refine HC.out.mono ?_; rintro e w1 ⟨rfl, v1, hW1, hT1⟩; have hc := hW1.cell) | (at_builtin; refine wpList_append_str rfl (.tmp 12) (.tmp 13) rfl Try.underlying32 Try.underlying9 Try.infoU8 v1 (l ++ le 2 s.size) rfl hW1.2 s rfl (by simp [le_length]; omega) ?_; intro v2 w2 hr2 hb2 hs2; obtain ⟨A2, n2, cap2, rfl⟩ := hr2.form; obtain ⟨hW2, hT2, hc2, hf2⟩ := hW1.put hr2 hb2 hs2; have HW2 := Lib.hid hW2; clear hW2 hr2 hb2 hs2))
  go_end0
  refine ⟨rfl, _, ?_, hT1.trans hT2⟩
  have := HW2.out
  rw [List.append_assoc] at this
  simpa [textBytes] using this

theorem new_writer (w : World) :
    Calls Try.prog 21 #[] w fun e w' => e = .returned (.pointer (some ⟨w.heap.size, 0, none⟩)) ∧ w' = w.alloc (.cells #[.slice none 0 0] 72) := by
  go_enter Try.func21, Try.ntmps21
  go_wp2
  go_ret
  exact ⟨rfl, rfl⟩
theorem Wr.new (w : World) : Wr w.heap.size (.slice none 0 0) [] (w.alloc (.cells #[.slice none 0 0] 72)) :=
  ⟨heap_alloc_new w _, Row.nil_ _⟩
end Go.Proofs.Ytdfoangkjeoomaa
