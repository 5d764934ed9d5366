/-
  Small laws on single operations over slices of bytes, for drawn regions: len(b), b[k:], b[:k], b[i].
-/
import Derived.Test.YtmhgpbohkdndpaaRows
import Derived.Test.YtmhgpbohkdndpaaMem
import Derived.Test.YtmhgpbohkdndpaaMath
import Derived.Laws.BitsAllLaws
import Derived.Lib.Hide
namespace Go.Proofs.Ytmhgpbohkdndpaa
open Go.RowKit

theorem Try.sizeB : Try.prog.elem 22 = 5 := by kernel_rfl
theorem Try.infoB : (Try.prog.info? 5).map (·.size) = some 1 := by kernel_rfl

theorem run_len_bytes {ρ : Operand → Value} {o : Oper} {x : Operand} {A : Option Addr} {n cap : Nat} (ho : o.op = .call { callee := .builtin .len, args := #[x], argTypes := #[22] }) (h : ρ x = .slice A n cap) (w : World) :
    (execOp ρ o).run Try.prog w = .ok (.value (.int .i64 (n : Int))) w := by
  unfold execOp
  rw [ho]
  simp [h, go_sem]

theorem run_from_bytes {ρ : Operand → Value} {o : Oper} {x : Operand} {A : Option Addr} {n cap : Nat} (k : Nat) {c : Operand} (ho : o.op = .slice 22 x (some c) none none) (h : ρ x = .slice A n cap) (hc : ρ c = .int .i64 (k : Int)) (h0 : 0 < k) (hk : k ≤ n) (w : World) :
    (execOp ρ o).run Try.prog w = .ok (.value (.slice (from_ A cap k) (n - k) (cap - k))) w := by
  have h1 : (k : Int) ≤ (n : Int) := by omega
  have h2 : (0 : Int) ≤ (k : Int) := by omega
  have ht : Try.prog.underlying 22 = some (.slice (Try.prog.elem 22)) := by kernel_rfl
  have hs : (sizeOf (Try.prog.elem 22)).run Try.prog w = .ok 1 w := by kernel_rfl
  have hne : ¬ k = 0 := by omega
  unfold execOp
  rw [ho]
  simp [h, hc, run_sliceAt_slice w 22 _ _ _ _ ht, run_slice_l w 22 A n cap ht .i64 (k : Int) h2 h1, hs, Result.andThen, sliced, from_, Addr.add, hne]

theorem run_to_bytes {ρ : Operand → Value} {o : Oper} {x : Operand} {A : Option Addr} {n cap : Nat} (k : Nat) {c : Operand} (ho : o.op = .slice 22 x none (some c) none) (h : ρ x = .slice A n cap) (hc : ρ c = .int .i64 (k : Int)) (hk : k ≤ cap) (w : World) :
    (execOp ρ o).run Try.prog w = .ok (.value (.slice A k cap)) w := by
  have h1 : (k : Int) ≤ (cap : Int) := by omega
  have h2 : (0 : Int) ≤ (k : Int) := by omega
  have ht : Try.prog.underlying 22 = some (.slice (Try.prog.elem 22)) := by kernel_rfl
  have hs : (sizeOf (Try.prog.elem 22)).run Try.prog w = .ok 1 w := by kernel_rfl
  unfold execOp
  rw [ho]
  simp [h, hc, run_sliceAt_slice w 22 _ _ _ _ ht, run_slice_h w 22 A n cap ht .i64 (k : Int) h2 h1, hs, Result.andThen, sliced, Addr.add]

/-- The number that four bytes make, the least significant first. -/
theorem le_or (c : Nat) (h : c < 4294967296) :
    bits .or .u32 ((c % 256 : Nat) : Int) ((c / 256 % 256 * 256 : Nat) : Int) = ((c % 65536 : Nat) : Int) ∧
    bits .or .u32 ((c % 65536 : Nat) : Int) ((c / 65536 % 256 * 65536 : Nat) : Int) = ((c % 16777216 : Nat) : Int) ∧
    bits .or .u32 ((c % 16777216 : Nat) : Int) ((c / 16777216 * 16777216 : Nat) : Int) = (c : Int) := by
  refine ⟨?_, ?_, ?_⟩
  · rw [u32_or_nat _ _ (by omega) (by omega), Nat.or_comm, nat_join 8 _ _ (by omega) (by omega)]
    omega
  · rw [u32_or_nat _ _ (by omega) (by omega), Nat.or_comm, nat_join 16 _ _ (by omega) (by omega)]
    omega
  · rw [u32_or_nat _ _ (by omega) (by omega), Nat.or_comm, nat_join 24 _ _ (by omega) (by omega)]
    omega

theorem le_or' (c : Nat) (h : c < 4294967296) :
    bits .or .u32 ((c : Int) % 256) ((c : Int) / 256 % 256 * 256) = (c : Int) % 65536 ∧
    bits .or .u32 ((c : Int) % 65536) ((c : Int) / 65536 % 256 * 65536) = (c : Int) % 16777216 ∧
    bits .or .u32 ((c : Int) % 16777216) ((c : Int) / 16777216 * 16777216) = (c : Int) := by
  simpa using le_or c h

theorem seal_at (l : List UInt8) : ((seal_ l).getD 0 0).toNat = crc l % 256 ∧ ((seal_ l).getD 1 0).toNat = crc l / 256 % 256 ∧ ((seal_ l).getD 2 0).toNat = crc l / 65536 % 256 ∧ ((seal_ l).getD 3 0).toNat = crc l / 16777216 := by
  have h := crc_lt l
  unfold seal_
  simp [leBytes, List.getD, Nat.div_div_eq_div_mul]
  omega

end Go.Proofs.Ytmhgpbohkdndpaa
