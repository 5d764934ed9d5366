/-
  The contracts of package zset: isWrong, ContainsFunc with it, isKept, ofNet, add, Clone of a row.
-/
import Derived.Test.YtcenjjoadhfhaaaZs
import Derived.Test.YtcenjjoadhfhaaaRowL
namespace Go.Proofs.Ytcenjjoadhfhaaa
open Go.RowKit
set_option linter.unusedVariables false

def partB (a : Int) : Bool := decide (0 ≤ a) && decide (a ≤ 1125899906842624)
theorem partB_iff {a : Int} : partB a = true ↔ Part a := by unfold partB Part; simp
/-- The tally is judged as its parts tell: known of all that has parts from 0 to 2^50. -/
def TallyAs (a b : Int) : Prop := ∀ w : World, Calls Try.prog 31 #[.complex .f64 (fl a) (fl b)] w fun e w' => e = .returned (.bool (partB a && partB b)) ∧ w = w'
theorem TallyAs.part {a b : Int} (ha : Part a) (hb : Part b) : TallyAs a b := fun w => by
  rw [partB_iff.2 ha, partB_iff.2 hb]
  exact right_i a b ha hb w
/-- An item that can be in no set. -/
def wrongJ (x : J) : Bool := !(rightR x.2.1 && (partB x.2.2.1 && partB x.2.2.2))

/-- An item in its own box. -/
structure Itembox (g : Nat) (z : J) (w : World) : Prop where
  blk : w.heap[g]? = some (.cells #[jrow z, jtal z] 31 (0, 0))
theorem Itembox.c0 {g : Nat} {z : J} {w : World} (h : Itembox g z w) : w.cell? ⟨g, 0, none⟩ = some (jrow z) := by rw [Lib.cell_of_heap h.blk]; rfl
theorem Itembox.c1 {g : Nat} {z : J} {w : World} (h : Itembox g z w) : w.cell? ⟨g, 1, none⟩ = some (jtal z) := by rw [Lib.cell_of_heap h.blk]; rfl
theorem Itembox.ev {g : Nat} {z : J} {w w' : World} (h : Itembox g z w) (he : Ev w w') : Itembox g z w' :=
  ⟨by rw [he.block g (Array.getElem?_eq_some_iff.1 h.blk).1]; exact h.blk⟩
theorem Itembox.new (z : J) (w : World) : Itembox w.heap.size z (w.alloc (.cells #[jrow z, jtal z] 31)) := ⟨heap_alloc_new w _⟩
theorem Itembox.lt {g : Nat} {z : J} {w : World} (h : Itembox g z w) : g < w.heap.size := (Array.getElem?_eq_some_iff.1 h.blk).1

/-- A law that the walk's own list lacks: a complex number is stored (lay it ahead of the walk). -/
theorem store_complex (w : World) (a : Addr) (x y : Nat) (m : Mode) : (store a (.complex .f64 x y) m).run Try.prog w = stored Try.prog w a (.complex .f64 x y) m := run_store Try.prog w a _ m rfl

set_option maxRecDepth 100000 in
set_option maxHeartbeats 800000 in
theorem zset_isWrong (z : J) (w : World) (hr : Vs w z.1.1 z.1.2.1 z.1.2.2 z.2.1) (ht : TallyAs z.2.2.1 z.2.2.2) :
    Calls Try.prog 15 #[jv z] w fun e w' => e = .returned (.bool (wrongJ z)) ∧ Ev w w' := by
  obtain ⟨⟨A, n, cap⟩, r, a, b⟩ := z
  simp only at hr ht
  obtain ⟨w0, hw0⟩ : ∃ w0, w0 = w.alloc (.cells #[.slice A n cap, .complex .f64 (fl a) (fl b)] 31) := ⟨_, rfl⟩
  have hE0 : Ev w w0 := hw0 ▸ Ev.alloc _ _
  have B0 : Itembox w.heap.size ((A, n, cap), r, a, b) w0 := hw0 ▸ Itembox.new ((A, n, cap), r, a, b) w
  have c0 : w0.cell? ⟨w.heap.size, 0, none⟩ = some (.slice A n cap) := B0.c0
  have HR := Lib.hid (row_right w0 (hr.ev hE0))
  have HT : Hid (∀ w : World, Calls Try.prog 31 #[.complex .f64 (fl a) (fl b)] w fun e w' => e = .returned (.bool (partB a && partB b)) ∧ w = w') := Lib.hid ht
  clear ht
  unfold wrongJ jv jrow jtal
  simp only
  generalize rightR r = x at *
  generalize (partB a && partB b) = y at *
  cases x
  · go_enter Try.func15, Try.ntmps15
    go_wp2_with (first | (rw [← hw0]; (with_reducible refine HR.out.mono ?_); rintro e w1 ⟨rfl, hE1⟩))
    go_ret
    exact ⟨rfl, hE0.trans hE1⟩
  · cases y
    · go_enter Try.func15, Try.ntmps15
      go_wp2_with (first | (rw [← hw0]; (with_reducible refine HR.out.mono ?_); rintro e w1 ⟨rfl, hE1⟩; have c1 : w1.cell? ⟨w.heap.size, 1, none⟩ = some (.complex .f64 (fl a) (fl b)) := (B0.ev hE1).c1) | ((with_reducible refine (HT.out _).mono ?_); rintro e w2 ⟨rfl, rfl⟩))
      go_ret
      exact ⟨rfl, hE0.trans hE1⟩
    · go_enter Try.func15, Try.ntmps15
      go_wp2_with (first | (rw [← hw0]; (with_reducible refine HR.out.mono ?_); rintro e w1 ⟨rfl, hE1⟩; have c1 : w1.cell? ⟨w.heap.size, 1, none⟩ = some (.complex .f64 (fl a) (fl b)) := (B0.ev hE1).c1) | ((with_reducible refine (HT.out _).mono ?_); rintro e w2 ⟨rfl, rfl⟩))
      go_ret
      exact ⟨rfl, hE0.trans hE1⟩

/-- The function isWrong as a value. -/
abbrev isWrongV : Value := .func (.func 15) #[] #[]
/-- Every item's tally is judged as its parts tell. -/
def TalliesAs (Z : List J) : Prop := ∀ z ∈ Z, TallyAs z.2.2.1 z.2.2.2

set_option maxRecDepth 100000 in
set_option maxHeartbeats 1600000 in
theorem slices_indexFunc {b0 : Nat} {A : Option Addr} {n cap : Nat} {Z : List J} (w : World) (h : Zs b0 w A n cap Z) (ht : TalliesAs Z) :
    Calls Try.prog 30 #[.slice A n cap, isWrongV] w fun e w' => (∃ i : Int, e = .returned (.int .i64 i) ∧ (decide (0 ≤ i) = Z.any wrongJ)) ∧ Ev w w' := by
  have hn := h.le
  have hm := h.max
  have HN := Lib.hid h.len
  have HT := Lib.hid ht
  clear ht
  go_enter Try.func30, Try.ntmps30
  go_wp2
  go_loopw [8] (fun i wr => ∃ k : Nat, k ≤ n ∧ i = .int .i64 (k : Int) ∧ Hid ((Z.take k).any wrongJ = false) ∧ Ev w wr) (fun i _ => n - (intOf i).toNat)
  case atStart => exact ⟨0, Nat.zero_le _, rfl, Lib.hid rfl, Ev.refl _⟩
  case round =>
    obtain ⟨k, hk, rfl, HF, hE⟩ := hrel
    by_cases hlt : k < n
    · obtain ⟨b, off, z, rfl, hb, hb0, hx, c0, c1, hv⟩ := (h.ev hE).at hlt
      have HI := Lib.hid (fun w1 (h1 : Ev wr w1) => zset_isWrong z w1 (hv.ev h1) (HT.out z (List.mem_of_getElem? hx)))
      have HX := Lib.hid hx
      obtain ⟨⟨A', n', cap'⟩, r, p, q⟩ := z
      clear hx hv
      generalize hz : wrongJ ((A', n', cap'), r, p, q) = y at HI
      have HZ := Lib.hid hz
      clear hz
      unfold jv jrow jtal at HI
      unfold jrow at c0
      unfold jtal at c1
      simp only at c0 c1 HI
      have i1 : (0 : Int) ≤ (k : Int) := by omega
      have i2 : (k : Int) < (n : Int) := by omega
      cases y
      · go_wp2_with (first | ((with_reducible refine (HI.out _ (Ev.refl _)).mono ?_); rintro e w1 ⟨rfl, hE1⟩))
        go_roundw
        case rel =>
          refine ⟨k + 1, by omega, by go_num, Lib.hid ?_, hE.trans hE1⟩
          obtain ⟨hk2, e⟩ := List.getElem?_eq_some_iff.1 HX.out
          rw [List.take_succ_eq_append_getElem hk2, List.any_append, HF.out, e]
          simp [HZ.out]
        case measure => simp [intOf]; omega
      · go_wp2_with (first | ((with_reducible refine (HI.out _ (Ev.refl _)).mono ?_); rintro e w1 ⟨rfl, hE1⟩))
        go_ret
        refine ⟨⟨k, rfl, ?_⟩, hE.trans hE1⟩
        rw [decide_eq_true i1]
        exact (List.any_eq_true.2 ⟨_, List.mem_of_getElem? HX.out, HZ.out⟩).symm
    · obtain rfl : k = n := by omega
      go_wp2
      go_ret
      refine ⟨⟨-1, rfl, ?_⟩, hE⟩
      have := HF.out
      rw [List.take_of_length_le (by rw [HN.out]; exact Nat.le_refl _)] at this
      rw [this]; rfl

set_option maxRecDepth 100000 in
set_option maxHeartbeats 1600000 in
theorem slices_containsFunc {b0 : Nat} {A : Option Addr} {n cap : Nat} {Z : List J} (w : World) (h : Zs b0 w A n cap Z) (ht : TalliesAs Z) :
    Calls Try.prog 14 #[.slice A n cap, isWrongV] w fun e w' => e = .returned (.bool (Z.any wrongJ)) ∧ Ev w w' := by
  have HI := Lib.hid (slices_indexFunc w h ht)
  generalize Z.any wrongJ = y at *
  clear ht
  go_enter Try.func14, Try.ntmps14
  go_wp2_with (first | ((with_reducible refine HI.out.mono ?_); rintro e w1 ⟨⟨i, rfl, rfl⟩, hE1⟩))
  go_ret
  exact ⟨rfl, hE1⟩
end Go.Proofs.Ytcenjjoadhfhaaa
