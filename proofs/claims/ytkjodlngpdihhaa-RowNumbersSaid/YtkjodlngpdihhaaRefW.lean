/-
  The contracts of the document's own Writer (chapter 1) and Put (chapter 4): copies in new memory.
-/
import Derived.Test.YtkjodlngpdihhaaVal
namespace Go.Proofs.Ytkjodlngpdihhaa
open Go.RowKit
set_option linter.unusedVariables false

/-- The call gives back a slice of new memory that holds l; what was there is as it was. -/
def GivesRow (l : List UInt8) (w : World) (e : Ending) (w' : World) : Prop := ∃ v, e = .returned v ∧ Row w' v l ∧ (∀ g, v.ownBlock = some g → w.heap.size ≤ g) ∧ Ev w w'

theorem made_bytes (w : World) : Row (w.alloc (.cells #[] 5)) (.slice (some ⟨w.heap.size, 0, none⟩) 0 0) [] := Row.of (base := 0) (World.ownsRow_made w #[] 0 (Nat.zero_le _) (by unfold maxLen; omega) rfl)
theorem low_byte (x : Int) : ((UInt8.ofNat (low x)).toNat : Int) = x % 256 := by
  have h := low_cast x
  simp
  omega
theorem low_byte8 (x : Int) : ((UInt8.ofNat (low x / 256)).toNat : Int) = x / 256 % 256 := by
  have h := low_cast x
  simp
  omega
theorem le1 (x : Int) : le 1 (low x) = [UInt8.ofNat (low x)] := rfl
theorem le2 (x : Int) : le 2 (low x) = [UInt8.ofNat (low x), UInt8.ofNat (low x / 256)] := rfl
theorem bs_one (w : World) (x : Int) : Bs (w.alloc (.cells #[.int .u8 (x % 256)] 5)) (some ⟨w.heap.size, 0, none⟩) 1 1 (le 1 (low x)) :=
  Bs.made (le 1 (low x)) _ (by rw [le1]; simp only [bvs, List.map_cons, List.map_nil, bv, low_byte]) (by simp [le_length])
theorem bs_two (w : World) (x : Int) : Bs (w.alloc (.cells #[.int .u8 (x % 256), .int .u8 (x / 256 % 256)] 5)) (some ⟨w.heap.size, 0, none⟩) 2 2 (le 2 (low x)) :=
  Bs.made (le 2 (low x)) _ (by rw [le2]; simp only [bvs, List.map_cons, List.map_nil, bv, low_byte, low_byte8]) (by simp [le_length])
/-- Behind two appends onto a row that the call has made itself nothing that was there has turned. -/
theorem Ev.rows {w w1 w2 : World} {v : Value} (h : Ev w w1) (hv : ∀ g, v.ownBlock = some g → w.heap.size ≤ g) (k : But (foot v) w1 w2) : Ev w w2 :=
  ((But.of_ev (K := []) h).trans k (fun x hx => .inr (hv x (mem_foot.1 hx)))).ev (by simp)
theorem Sprung.ge {w w1 : World} {v v' : Value} (h : Sprung w1 v v') (hs : w.heap.size ≤ w1.heap.size) (hv : ∀ g, v.ownBlock = some g → w.heap.size ≤ g) : ∀ g, v'.ownBlock = some g → w.heap.size ≤ g := fun g hg => by
  rcases h g hg with h1 | h1
  · exact hv g h1
  · omega

set_option maxRecDepth 100000 in
set_option maxHeartbeats 800000 in
theorem ref_byte (A : Option Addr) (n cap : Nat) (l : List UInt8) (x : Int) (w : World) (h : Bs w A n cap l) (hn : n + 8 ≤ 140737488355328) :
    Calls Try.prog 46 #[.slice A n cap, .int .i64 x] w (GivesRow (l ++ le 1 (low x)) w) := by
  have HL := Lib.hid h.len
  have HM := Lib.hid (made_bytes w)
  have HA := Lib.hid (h.below (Ev.alloc w (.cells #[] 5)))
  go_enter Try.func46, Try.ntmps46
  go_wp2_with (first
    | ((show wpList _ _ _ (⟨some 7, _, _, _, _, _⟩ :: _) _ _); refine wpList_append_row (o := ⟨some 7, _, _, _, _, _⟩) rfl (.tmp 5) (.tmp 6) rfl Try.underlying33 Try.infoU8 (.slice (some ⟨w.heap.size, 0, none⟩) 0 0) [] rfl HM.out A n cap l rfl HA.out (by rw [HL.out]; simp; omega) ?_; intro v1 w1 hr1 hb1 hs1; obtain ⟨A1, n1, cap1, rfl⟩ := hr1.form; have E1 : Ev w w1 := Ev.rows (Ev.alloc w _) (by simp [Value.ownBlock]) hb1; have hg1 := hs1.ge (w := w) (by simp) (by simp [Value.ownBlock]); have HB := Lib.hid (bs_one w1 x))
    | ((show wpList _ _ _ (⟨some 11, _, _, _, _, _⟩ :: _) _ _); refine wpList_append_row (o := ⟨some 11, _, _, _, _, _⟩) rfl (.tmp 7) (.tmp 10) rfl Try.underlying33 Try.infoU8 (.slice A1 n1 cap1) ([] ++ l) rfl (hr1.ev (Ev.alloc _ _)) (some ⟨w1.heap.size, 0, none⟩) 1 1 (le 1 (low x)) rfl HB.out (by rw [List.nil_append, HL.out]; simp [le_length]; omega) ?_; intro v2 w2 hr2 hb2 hs2; obtain ⟨A2, n2, cap2, rfl⟩ := hr2.form)
    | fail)
  go_ret
  have E2 : Ev w w1 := E1
  have hs2' := hs2.ge (w := w) (by have := E1.size; simp; omega) hg1
  exact ⟨_, rfl, by simpa using hr2, hs2', (E1.trans (Ev.alloc _ _)).rows hg1 hb2⟩

set_option maxRecDepth 100000 in
set_option maxHeartbeats 800000 in
theorem ref_short (A : Option Addr) (n cap : Nat) (l : List UInt8) (x : Int) (w : World) (h : Bs w A n cap l) (hn : n + 8 ≤ 140737488355328) :
    Calls Try.prog 76 #[.slice A n cap, .int .i64 x] w (GivesRow (l ++ le 2 (low x)) w) := by
  have HL := Lib.hid h.len
  have HM := Lib.hid (made_bytes w)
  have HA := Lib.hid (h.below (Ev.alloc w (.cells #[] 5)))
  go_enter Try.func76, Try.ntmps76
  go_wp2_with (first
    | ((show wpList _ _ _ (⟨some 7, _, _, _, _, _⟩ :: _) _ _); refine wpList_append_row (o := ⟨some 7, _, _, _, _, _⟩) rfl (.tmp 5) (.tmp 6) rfl Try.underlying33 Try.infoU8 (.slice (some ⟨w.heap.size, 0, none⟩) 0 0) [] rfl HM.out A n cap l rfl HA.out (by rw [HL.out]; simp; omega) ?_; intro v1 w1 hr1 hb1 hs1; obtain ⟨A1, n1, cap1, rfl⟩ := hr1.form; have E1 : Ev w w1 := Ev.rows (Ev.alloc w _) (by simp [Value.ownBlock]) hb1; have hg1 := hs1.ge (w := w) (by simp) (by simp [Value.ownBlock]); have HB := Lib.hid (bs_two w1 x))
    | ((show wpList _ _ _ (⟨some 14, _, _, _, _, _⟩ :: _) _ _); refine wpList_append_row (o := ⟨some 14, _, _, _, _, _⟩) rfl (.tmp 7) (.tmp 13) rfl Try.underlying33 Try.infoU8 (.slice A1 n1 cap1) ([] ++ l) rfl (hr1.ev (Ev.alloc _ _)) (some ⟨w1.heap.size, 0, none⟩) 2 2 (le 2 (low x)) rfl HB.out (by rw [List.nil_append, HL.out]; simp [le_length]; omega) ?_; intro v2 w2 hr2 hb2 hs2; obtain ⟨A2, n2, cap2, rfl⟩ := hr2.form)
    | fail)
  go_ret
  have E2 : Ev w w1 := E1
  have hs2' := hs2.ge (w := w) (by have := E1.size; simp; omega) hg1
  exact ⟨_, rfl, by simpa using hr2, hs2', (E1.trans (Ev.alloc _ _)).rows hg1 hb2⟩

set_option maxRecDepth 100000 in
set_option maxHeartbeats 800000 in
theorem ref_text (A : Option Addr) (n cap : Nat) (l : List UInt8) (s : ByteArray) (w : World) (h : Bs w A n cap l) (hn : n + s.size + 8 ≤ 140737488355328) :
    Calls Try.prog 63 #[.slice A n cap, .string s] w (GivesRow (l ++ textBytes s.data.toList) w) := by
  have HL := Lib.hid h.len
  have hsl : s.data.toList.length = s.size := by rw [Array.length_toList]; rfl
  have hlow : low (s.size : Int) = s.size := by unfold low; omega
  have C := ref_short A n cap l s.size w h (by omega)
  rw [hlow] at C
  have HC := Lib.hid C
  have HS := Lib.hid hsl
  clear C hlow hsl
  go_enter Try.func63, Try.ntmps63
  go_wp2_with (first | ((with_reducible refine HC.out.mono ?_); rintro y w1 ⟨v1, rfl, hr1, hg1, hE1⟩; obtain ⟨A1, n1, cap1, rfl⟩ := hr1.form) | (at_builtin; refine wpList_append_str rfl (.tmp 8) (.tmp 9) rfl Try.underlying33 Try.underlying9 Try.infoU8 (.slice A1 n1 cap1) (l ++ le 2 s.size) rfl hr1 s rfl (by rw [List.length_append, HL.out, le_length]; omega) ?_; intro v2 w2 hr2 hb2 hs2; obtain ⟨A2, n2, cap2, rfl⟩ := hr2.form))
  go_ret
  refine ⟨_, rfl, ?_, hs2.ge hE1.size hg1, hE1.rows hg1 hb2⟩
  have := hr2
  rw [List.append_assoc] at this
  unfold textBytes
  rw [HS.out]
  exact this

theorem le_bits (x : Int) (h0 : -9223372036854775808 ≤ x) (h1 : x ≤ 9223372036854775807) : ∀ i, i < 8 → ((UInt8.ofNat (low x / 256 ^ i)).toNat : Int) = x / 2 ^ (8 * i) % 256 := by
  intro i hi
  have h := low_cast x
  have e : i = 0 ∨ i = 1 ∨ i = 2 ∨ i = 3 ∨ i = 4 ∨ i = 5 ∨ i = 6 ∨ i = 7 := by omega
  rcases e with rfl | rfl | rfl | rfl | rfl | rfl | rfl | rfl <;> simp <;> omega

set_option maxRecDepth 100000 in
set_option maxHeartbeats 1600000 in
theorem ref_long (A : Option Addr) (n cap : Nat) (l : List UInt8) (x : Int) (w : World) (h : Bs w A n cap l) (hn : n + 8 ≤ 140737488355328) (h0 : -9223372036854775808 ≤ x) (h1 : x ≤ 9223372036854775807) :
    Calls Try.prog 62 #[.slice A n cap, .int .i64 x] w (GivesRow (l ++ le 8 (low x)) w) := by
  have HL := Lib.hid h.len
  have HM := Lib.hid (made_bytes w)
  have HA := Lib.hid (h.below (Ev.alloc w (.cells #[] 5)))
  go_enter Try.func62, Try.ntmps62
  go_wp2_with (first
    | ((show wpList _ _ _ (⟨some 9, _, _, _, _, _⟩ :: _) _ _); refine wpList_append_row (o := ⟨some 9, _, _, _, _, _⟩) rfl (.tmp 7) (.tmp 8) rfl Try.underlying33 Try.infoU8 (.slice (some ⟨w.heap.size, 0, none⟩) 0 0) [] rfl HM.out A n cap l rfl HA.out (by rw [HL.out]; simp; omega) ?_; intro v1 w1 hr1 hb1 hs1; obtain ⟨A1, n1, cap1, rfl⟩ := hr1.form; have E1 : Ev w w1 := Ev.rows (Ev.alloc w _) (by simp [Value.ownBlock]) hb1; have hg1 := hs1.ge (w := w) (by simp) (by simp [Value.ownBlock]))
    | fail)
  simp only [List.nil_append] at hr1
  go_loopw [5, 6] (fun v i wr => ∃ j : Nat, j ≤ 8 ∧ i = .int .i64 (j : Int) ∧ Row wr v (l ++ le j (low x)) ∧ (∀ g, v.ownBlock = some g → w.heap.size ≤ g) ∧ Ev w wr) (fun _ i _ => 8 - (intOf i).toNat)
  case atStart => exact ⟨0, by omega, rfl, by simpa [le] using hr1, hg1, E1⟩
  case round =>
    obtain ⟨j, hj, rfl, hr, hg, hE⟩ := hrel
    obtain ⟨A3, n3, cap3, rfl⟩ := hr.form
    by_cases hlt : j < 8
    · have hls := le_snoc j (low x)
      have hbt := le_bits x h0 h1 j hlt
      generalize UInt8.ofNat (low x / 256 ^ j) = c at *
      have HLS := Lib.hid hls
      have HBT := Lib.hid hbt
      clear hls hbt
      have HB : Hid (Bs (wr.alloc (.cells #[.int .u8 (x / 2 ^ (8 * j) % 256)] 5)) (some ⟨wr.heap.size, 0, none⟩) 1 1 [c]) := Lib.hid (Bs.made [c] _ (by simp only [bvs, List.map_cons, List.map_nil, bv, HBT.out]) (by simp))
      go_wp2_with (first
        | ((show wpList _ _ _ (⟨some 22, _, _, _, _, _⟩ :: _) _ _); refine wpList_append_row (o := ⟨some 22, _, _, _, _, _⟩) rfl (.tmp 14) (.tmp 21) rfl Try.underlying33 Try.infoU8 (.slice A3 n3 cap3) (l ++ le j (low x)) rfl (hr.ev (Ev.alloc _ _)) (some ⟨wr.heap.size, 0, none⟩) 1 1 [c] rfl HB.out (by rw [List.length_append, HL.out, le_length]; simp; omega) ?_; intro v4 w4 hr4 hb4 hs4; obtain ⟨A4, n4, cap4, rfl⟩ := hr4.form)
        | fail)
      go_roundw
      case rel =>
        refine ⟨j + 1, by omega, by go_num, ?_, hs4.ge (by have := hE.size; simp; omega) hg, (hE.trans (Ev.alloc _ _)).rows hg hb4⟩
        rw [HLS.out, ← List.append_assoc]
        exact hr4
      case measure => simp [intOf]; omega
    · obtain rfl : j = 8 := by omega
      go_wp2
      go_ret
      exact ⟨_, rfl, hr, hg, hE⟩

set_option maxRecDepth 100000 in
set_option maxHeartbeats 800000 in
theorem ref_put (k n : Int) (s : ByteArray) (w : World) (h0 : -9223372036854775808 ≤ n) (h1 : n ≤ 9223372036854775807) (hs : s.size ≤ 1000000) :
    Calls Try.prog 47 #[.slice none 0 0, vv k n s] w (GivesRow (putV k n s) w) := by
  obtain ⟨w0, hw0⟩ : ∃ w0, w0 = w.alloc (.cells #[.int .i64 k, .int .i64 n, .string s] 61) := ⟨_, rfl⟩
  have B : Boxed w.heap.size k n s w0 := hw0 ▸ Boxed.new k n s w
  have hE0 : Ev w w0 := hw0 ▸ Ev.alloc w _
  have HC := Lib.hid (fun w => ref_byte none 0 0 [] k w (Bs.nil_ w) (by omega))
  have hl1 : ([] ++ le 1 (low k)).length = 1 := by simp [le_length]
  have HL := Lib.hid (fun A cap w (h : Bs w A 1 cap ([] ++ le 1 (low k))) => ref_long A 1 cap _ n w h (by omega) h0 h1)
  have HT := Lib.hid (fun A cap w (h : Bs w A 1 cap ([] ++ le 1 (low k))) => ref_text A 1 cap _ s w h (by omega))
  have HL1 := Lib.hid hl1
  clear hl1
  by_cases hk : k = 1
  · have hp : putV k n s = [] ++ le 1 (low k) ++ le 8 (low n) := by simp [putV, hk]
    rw [hp]
    clear hp
    subst hk
    go_enter Try.func47, Try.ntmps47
    go_wp2_with (first | (rw [← hw0]; (with_reducible refine (HC.out w0).mono ?_); rintro y w1 ⟨v1, rfl, hr1, hg1, hE1⟩; have B1 := B.ev hE1; have c0 := B1.c0; have c1 := B1.c1; obtain ⟨A1, cap1, rfl, hB1, _⟩ := hr1.bs; rw [HL1.out] at hB1 ⊢) | ((with_reducible refine (HL.out _ _ w1 hB1).mono ?_); rintro y w2 ⟨v2, rfl, hr2, hg2, hE2⟩; obtain ⟨A2, n2, cap2, rfl⟩ := hr2.form))
    go_ret
    exact ⟨_, rfl, hr2, fun g hg => Nat.le_trans (hE0.trans hE1).size (hg2 g hg), (hE0.trans hE1).trans hE2⟩
  · have hp : putV k n s = [] ++ le 1 (low k) ++ textBytes s.data.toList := by simp [putV, hk]
    rw [hp]
    clear hp
    go_enter Try.func47, Try.ntmps47
    go_wp2_with (first | (rw [← hw0]; (with_reducible refine (HC.out w0).mono ?_); rintro y w1 ⟨v1, rfl, hr1, hg1, hE1⟩; have B1 := B.ev hE1; have c0 := B1.c0; have c2 := B1.c2; obtain ⟨A1, cap1, rfl, hB1, _⟩ := hr1.bs; rw [HL1.out] at hB1 ⊢) | ((with_reducible refine (HT.out _ _ w1 hB1).mono ?_); rintro y w2 ⟨v2, rfl, hr2, hg2, hE2⟩; obtain ⟨A2, n2, cap2, rfl⟩ := hr2.form))
    go_ret
    exact ⟨_, rfl, hr2, fun g hg => Nat.le_trans (hE0.trans hE1).size (hg2 g hg), (hE0.trans hE1).trans hE2⟩
end Go.Proofs.Ytkjodlngpdihhaa
