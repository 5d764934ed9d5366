/-
  The contract of sum.Seal.
-/
import Derived.Test.YtmhgpbohkdndpaaCrc
namespace Go.Proofs.Ytmhgpbohkdndpaa
open Go.RowKit

theorem Try.infoU8 : (Try.prog.info? 5).map (fun i => (i.zero, i.size, i.bytes)) = some (some (.int .u8 0), 1, 1) := by kernel_rfl

theorem leBytes_succ (k c : Nat) : leBytes (k + 1) c = leBytes k c ++ [UInt8.ofNat (c / 256 ^ k)] := by
  induction k generalizing c with
  | zero => simp [leBytes]
  | succ k ih =>
    rw [leBytes, ih (c / 256), leBytes, Nat.div_div_eq_div_mul, Nat.pow_succ, Nat.mul_comm (256 ^ k) 256]
    rfl

/-- Behind the append of one byte. -/
theorem seal_step {w1 : World} {g k n c0 q : Nat} (hq : q = c0 / 256 ^ k)
    (hown : w1.ownsRow g 5 1 (.slice (some ⟨g, 0, none⟩) (k + 1) (4 + n)) (k + 1) (bvs (leBytes k c0) ++ [.int .u8 ((q : Int) % 256)])) :
    w1.ownsRow g 5 1 (.slice (some ⟨g, 0, none⟩) (k + 1) (4 + n)) (k + 1) (bvs (leBytes (k + 1) c0)) := by
  subst hq
  rw [leBytes_succ, bvs_append]
  have e : bvs [UInt8.ofNat (c0 / 256 ^ k)] = [.int .u8 (((c0 / 256 ^ k : Nat) : Int) % 256)] := by
    simp [bvs, bv]
  rw [e]
  exact hown

set_option maxHeartbeats 400000 in
theorem seal_any (A : Option Addr) (n cap : Nat) (l : List UInt8) (w : World) (h : Bs w A n cap l) (hsz : n ≤ 140737488355000) :
    Calls Try.prog 9 #[.slice A n cap] w (RetFresh (seal_ l) w) := by
  obtain ⟨i0, hi, hz0, hz1, hz2⟩ := info_parts Try.infoU8
  go_enter Try.func9, Try.ntmps9
  go_wp2_with (first
    | (at_make; refine wpList_make_own _ rfl _ _ 22 rfl w.heap.size 5 i0 (.int .u8 0) 1 Try.underlying22 hi hz0 hz1 .i64 .i64 _ (4 + n) rfl rfl (by simp) (by rw [hz2]; omega) (by unfold maxLen; omega) (Nat.le_refl _) ?_; intro w1 hown1 hgrow1)
    | fail)
  have hb1 : Below w.heap.size w w1 := (Below.refl _ _).grown hgrow1 (Nat.le_refl _) (fun k hk => by cases hk)
  refine (crc_any A n cap l w1 (h.below hb1)).mono ?_
  rintro e w' ⟨rfl, rfl⟩
  have hc0 := crc_lt l
  generalize hcc : crc l = c0 at hc0
  have HC := Lib.hid hcc
  clear hcc hgrow1
  go_wp2
  go_loopw [3, 4, 11] (fun v c i wr => ∃ k : Nat, k ≤ 4 ∧ i = .int .i64 k ∧ c = .int .u32 ((c0 / 256 ^ k : Nat) : Int) ∧ v = .slice (some ⟨w.heap.size, 0, none⟩) k (4 + n) ∧
      wr.ownsRow w.heap.size 5 1 (.slice (some ⟨w.heap.size, 0, none⟩) k (4 + n)) k (bvs (leBytes k c0)) ∧ Below w.heap.size w wr)
    (fun _ _ i _ => 4 - (intOf i).toNat)
  case atStart => exact ⟨0, by omega, rfl, by simp, rfl, hown1, hb1⟩
  case round =>
    obtain ⟨k, hk, rfl, rfl, rfl, hown, hb⟩ := hrel
    by_cases hk4 : k < 4
    · have hq : c0 / 256 ^ k < 4294967296 := Nat.lt_of_le_of_lt (Nat.div_le_self _ _) hc0
      generalize hqq : c0 / 256 ^ k = q at hq
      have HQ := Lib.hid hqq
      clear hqq
      go_wp2_with (first
        | (at_builtin; refine wpList_append_fits _ rfl _ _ 22 rfl w.heap.size 5 i0 1 Try.underlying22 hi hz1 w.heap.size k (4 + n) _ rfl (hown.alloc _) ⟨wr.heap.size, 0, none⟩ 1 1 [.int .u8 ((q : Int) % 256)] rfl rfl (cell_one_new _ _ _) (by intro u hu; simp at hu; subst hu; rfl) (by omega) ?_; intro w2 hown2 hgrow2)
        | fail)
      have hb2 : Below w.heap.size w w2 := (hb.alloc hb.size _).grown hgrow2 (by have := hb.size; simp; omega) (fun k hk => by cases hk; exact Nat.le_refl _)
      have hown3 := seal_step HQ.out.symm hown2
      clear hown2 hgrow2 hown hb
      go_wp2
      go_roundw
      case rel => exact ⟨k + 1, by omega, by go_num, int_of_eq (by rw [← HQ.out, Nat.pow_succ, ← Nat.div_div_eq_div_mul]; simp), rfl, hown3, hb2⟩
      case measure => simp [intOf]; omega
    · obtain rfl : k = 4 := by omega
      go_wp2_with (first
        | (at_builtin; refine wpList_append_fits_any _ rfl _ _ 22 rfl w.heap.size 5 i0 1 Try.underlying22 hi hz1 w.heap.size 4 (4 + n) _ rfl hown A n cap (bvs l) rfl (by rw [bvs_length, h.len]; omega) h.nil (h.below hb).cells (bvs_one l) (by omega) ?_; intro w2 hown2 hgrow2)
        | fail)
      have hb2 : Below w.heap.size w w2 := hb.grown hgrow2 hb.size (fun k hk => by cases hk; exact Nat.le_refl _)
      go_wp2
      go_ret
      have e1 : (seal_ l).length = 4 + n := by rw [seal_length, h.len]; omega
      refine ⟨_, rfl, Fresh.mk ?_ hb2⟩
      rw [e1]
      have e2 : bvs (seal_ l) = bvs (leBytes 4 c0) ++ bvs l := by rw [seal_, bvs_append, HC.out]
      rw [e2]
      exact hown2
end Go.Proofs.Ytmhgpbohkdndpaa
