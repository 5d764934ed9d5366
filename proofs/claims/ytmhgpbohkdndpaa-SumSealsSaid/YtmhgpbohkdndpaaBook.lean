/-
  The contracts of the statements' own helpers on lists of bytes: Roomy, Same, Intact, and Within on numbers.
-/
import Derived.Test.YtmhgpbohkdndpaaRows
import Derived.Test.YtmhgpbohkdndpaaMem
import Derived.Laws.CopyOwn
import Derived.Lib.Hide
import Derived.BigQuiet
import Derived.Deep.QuietTactic
namespace Go.Proofs.Ytmhgpbohkdndpaa
open Go.RowKit

theorem Try.infoU8b : (Try.prog.info? 5).map (fun i => (i.zero, i.size, i.bytes)) = some (some (.int .u8 0), 1, 1) := by kernel_rfl
theorem Try.sizeU8 : (Try.prog.info? 5).map (·.size) = some 1 := by kernel_rfl

/-- A row that is filled to its capacity is its block. -/
theorem own_block {w : World} {base g n : Nat} {e : TypeId} {xs : List Value} (h : w.ownsRow base e 1 (.slice (some ⟨g, 0, none⟩) n n) n xs) : w.heap[g]? = some (.cells xs.toArray e (0, 0)) := by
  rcases h.2 with ⟨hv, _⟩ | ⟨g', cap, cur, hv, _, hh, _, _, hcs, htake⟩
  · simp at hv
  · simp only [Value.slice.injEq, Option.some.injEq, Addr.mk.injEq, and_true, true_and] at hv
    obtain ⟨rfl, rfl⟩ := hv
    rw [hh]
    have : cur = xs.toArray := by
      rw [← htake, List.take_of_length_le (by simp [hcs])]
    rw [this]
theorem block_own {w : World} {base g n : Nat} {e : TypeId} {xs : List Value} (hb : base ≤ g) (hm : n ≤ maxLen) (hl : xs.length = n) (h : w.heap[g]? = some (.cells xs.toArray e (0, 0))) : w.ownsRow base e 1 (.slice (some ⟨g, 0, none⟩) n n) n xs :=
  ⟨by omega, .inr ⟨g, n, xs.toArray, rfl, hb, h, Nat.le_refl _, hm, by simp [hl], List.take_of_length_le (by simp [hl])⟩⟩

theorem made_block {w : World} {base g n : Nat} {e : TypeId} {z : Value} (h : w.ownsRow base e 1 (.slice (some ⟨g, 0, none⟩) n n) n (madeCells z.cells (n * 1)).toList) (hz : z.cells = #[z] := by rfl) :
    w.heap[g]? = some (.cells (List.replicate n z).toArray e (0, 0)) := by
  rw [hz, toList_madeCells_one, Nat.mul_one] at h
  exact own_block h
/-- The source of a copy. -/
theorem Bs.copied {w : World} {A : Option Addr} {n cap : Nat} {l : List UInt8} (h : Bs w A n cap l) (h0 : 0 < (bvs l).length) : ∃ ad, A = some ad ∧ ∀ j v, (bvs l)[j]? = some v → w.cell? (ad.add j) = some v := by
  rw [bvs_length, h.len] at h0
  obtain ⟨b, off, rfl, _⟩ := h.rd h0
  exact ⟨_, rfl, h.cells _ rfl⟩

/-- What the loop of Roomy has made behind some rounds. -/
def roomed (l : List UInt8) (m : UInt8) (j : Nat) : List UInt8 := l ++ (List.replicate j m ++ List.replicate (80 - j) 0)
theorem roomed_length (l : List UInt8) (m : UInt8) (j : Nat) (hj : j ≤ 80) : (roomed l m j).length = l.length + 80 := by simp [roomed]; omega
theorem roomed_set (l : List UInt8) (m : UInt8) (j : Nat) (hj : j < 80) : (bvs (roomed l m j)).set (l.length + j) (.int .u8 (m.toNat : Int)) = bvs (roomed l m (j + 1)) := by
  have e1 : List.replicate (80 - j) (0 : UInt8) = 0 :: List.replicate (80 - (j + 1)) 0 := by
    rw [show 80 - j = (80 - (j + 1)) + 1 by omega, List.replicate_succ]
  have e2 : List.replicate (j + 1) m = List.replicate j m ++ [m] := by rw [List.replicate_succ']
  have hl : (bvs l ++ bvs (List.replicate j m)).length = l.length + j := by simp [bvs]
  unfold roomed
  rw [e1, e2, bvs_append, bvs_append, bvs_append, bvs_append, ← List.append_assoc, ← List.append_assoc]
  have e3 : bvs (0 :: List.replicate (80 - (j + 1)) 0) = bv 0 :: bvs (List.replicate (80 - (j + 1)) 0) := rfl
  rw [e3, ← hl, List.set_append_right _ _ (Nat.le_refl _), Nat.sub_self, List.set_cons_zero]
  simp [bvs, bv]
/-- What Roomy makes of l. -/
def roomy (l : List UInt8) (m : UInt8) : List UInt8 := l ++ List.replicate 80 m
theorem roomed_all (l : List UInt8) (m : UInt8) : roomed l m 80 = roomy l m := by simp [roomed, roomy]
theorem roomy_length (l : List UInt8) (m : UInt8) : (roomy l m).length = l.length + 80 := by simp [roomy]

/-- copy laid over zeros. -/
theorem splice_zeros (l : List UInt8) (m : UInt8) : splice (List.replicate (l.length + 80) (Value.int .u8 0)) 0 (bvs l) = bvs (roomed l m 0) := by
  unfold splice roomed
  rw [List.take_zero, List.nil_append, Nat.zero_add, bvs_length, List.drop_replicate, bvs_append, bvs_append]
  simp [bvs, bv]

set_option maxHeartbeats 400000 in
theorem roomy_any (A : Option Addr) (n cap : Nat) (l : List UInt8) (m : UInt8) (w : World) (h : Bs w A n cap l) (hsz : n ≤ 140737488355000) :
    Calls Try.prog 11 #[.slice A n cap, .int .u8 (m.toNat : Int)] w (RetFresh (roomy l m) w) := by
  obtain ⟨i0, hi, hz0, hz1, hz2⟩ := info_parts Try.infoU8b
  have HL := Lib.hid h.len
  have hm := m.toNat_lt
  go_enter Try.func11, Try.ntmps11
  go_wp2_with (first
    | (at_make; refine wpList_make_full _ rfl _ _ 22 rfl w.heap.size 5 i0 (.int .u8 0) 1 Try.underlying22 hi hz0 hz1 .i64 .i64 _ _ (n + 80) rfl rfl (by simp) (by simp) (by rw [hz2]; omega) (by unfold maxLen; omega) (Nat.le_refl _) ?_; intro w1 hown1 hgrow1; have hg1 := Lib.hid (made_block hown1); have hb1 : Below w.heap.size w w1 := (Below.refl _ _).grown hgrow1 (Nat.le_refl _) (fun k hk => by cases hk); have hx1 := (h.below hb1).copied; clear hgrow1 hown1)
    | ((show wpList _ _ _ (⟨some 13, _, _, _, _, _⟩ :: _) _ _); refine wpList_copy_splice (o := ⟨some 13, _, _, _, _, _⟩) rfl (.tmp 11) (.tmp 12) 22 22 rfl 5 Try.underlying22 Try.sizeU8 (some ⟨w.heap.size, 0, none⟩) A (n + 80) (n + 80) n cap (by rfl) (by rfl) w.heap.size 0 (List.replicate (n + 80) (Value.int .u8 0)) 5 hg1.out (bvs l) (by rw [bvs_length, h.len]; exact (Nat.min_eq_left (by omega)).symm) (fun h0 => ⟨rfl, hx1 h0⟩) (by rw [bvs_length, h.len]; simp) (bvs_one l) w.heap.size w hb1 (Nat.le_refl _) ?_; intro w2 HG2 hb2; clear hg1 hx1 hb1)
    | fail)
  have hlen := h.len
  have ho0 : w2.ownsRow w.heap.size 5 1 (.slice (some ⟨w.heap.size, 0, none⟩) (n + 80) (n + 80)) (n + 80) (bvs (roomed l m 0)) := by
    refine block_own (Nat.le_refl _) (by unfold maxLen; omega) (by rw [bvs_length, roomed_length _ _ _ (by omega)]; omega) ?_
    have := HG2.out
    rw [← hlen, splice_zeros l m] at this
    exact this
  clear HG2 hlen
  go_loopw [6] (fun i wr => ∃ k : Nat, k ≤ 80 ∧ i = .int .i64 ((n + k : Nat) : Int) ∧
      wr.ownsRow w.heap.size 5 1 (.slice (some ⟨w.heap.size, 0, none⟩) (n + 80) (n + 80)) (n + 80) (bvs (roomed l m k)) ∧ Below w.heap.size w wr)
    (fun i _ => n + 80 - (intOf i).toNat)
  case atStart => exact ⟨0, by omega, by simp, ho0, hb2⟩
  case round =>
    obtain ⟨k, hk, rfl, hown, hb⟩ := hrel
    by_cases hlt : k < 80
    · have hcell : wr.cell? ⟨w.heap.size, n + k, none⟩ = some (.int .u8 (((roomed l m k).getD (n + k) 0).toNat : Int)) := by
        rw [hown.cellAt (n + k) (by omega)]
        exact bvs_at (by rw [roomed_length _ _ _ (by omega), h.len]; omega)
      have hfr : wr.frozen? ⟨w.heap.size, n + k, none⟩ = false := hown.frozenAt (n + k)
      have hst := hown.stored (n + k) (.int .u8 (m.toNat : Int))
      have HS := Lib.hid hst.1
      have hb' : Below w.heap.size w (wr.setCell ⟨w.heap.size, n + k, none⟩ (.int .u8 (m.toNat : Int))) := hb.setCell (p := ⟨w.heap.size, n + k, none⟩) (Nat.le_refl _) _
      clear hst hown
      go_wp2
      go_roundw
      case rel =>
        refine ⟨k + 1, by omega, by go_num, ?_, hb'⟩
        have := HS.out
        rw [← h.len, roomed_set l m k hlt, h.len] at this
        exact this
      case measure => simp [intOf]; omega
    · obtain rfl : k = 80 := by omega
      go_wp2
      go_ret
      refine ⟨_, rfl, Fresh.mk ?_ hb⟩
      rw [roomy_length, h.len, ← roomed_all]
      exact hown

end Go.Proofs.Ytmhgpbohkdndpaa
