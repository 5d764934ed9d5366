/-
  The contract of sum.Crc.
-/
import Derived.Test.YtmhgpbohkdndpaaRows
import Derived.Test.YtmhgpbohkdndpaaMath
import Derived.Test.YtmhgpbohkdndpaaMem
import Derived.WalkKit
import Derived.WalkSpells
import Derived.Laws.BitsAllLaws
import Derived.Lib.Hide
namespace Go.Proofs.Ytmhgpbohkdndpaa
open Go.RowKit

theorem int_of_eq {k : IntKind} {a b : Int} (h : a = b) : Value.int k a = Value.int k b := by rw [h]
theorem ret_of_eq {k : IntKind} {a b : Int} (h : a = b) : Ending.returned (.int k a) = .returned (.int k b) := by rw [h]

theorem crcBit_walk (c : Nat) (h : c < 4294967296) : bits .xor .u32 ((c : Int) / 2) (3988292384 * bits .and .u32 (c : Int) 1 % 4294967296) = ((crcBit c : Nat) : Int) := by
  have e1 := u32_and_nat c 1 h (by decide)
  rw [show ((1 : Nat) : Int) = 1 from rfl] at e1
  rw [e1, Nat.and_one_is_mod]
  have hlt : 3988292384 * (c % 2) < 4294967296 := by omega
  have e2 : 3988292384 * ((c % 2 : Nat) : Int) % 4294967296 = ((3988292384 * (c % 2) : Nat) : Int) := by omega
  rw [e2, show ((c : Int) / 2) = ((c / 2 : Nat) : Int) by omega]
  exact u32_xor_nat _ _ (by omega) hlt
theorem crcXor_walk (c : Nat) (x : UInt8) (h : c < 4294967296) : bits .xor .u32 (c : Int) ((x.toNat : Int) % 4294967296) = ((c ^^^ x.toNat : Nat) : Int) := by
  have hx := x.toNat_lt
  rw [show ((x.toNat : Int) % 4294967296) = (x.toNat : Int) by omega]
  exact u32_xor_nat _ _ h (by omega)

theorem crcNot_walk (c : Nat) (h : c < 4294967296) : bits .xor .u32 IntKind.u32.max (c : Int) = ((4294967295 - c : Nat) : Int) := by
  have e : IntKind.u32.max = ((4294967295 : Nat) : Int) := by decide
  rw [e, u32_xor_nat _ _ (by decide) h]
  congr 1
  have h2 := BitVec.toNat_not (x := BitVec.ofNat 32 c)
  have h3 : (BitVec.allOnes 32 ^^^ BitVec.ofNat 32 c) = ~~~ BitVec.ofNat 32 c := by
    ext i hi
    simp only [BitVec.getElem_xor, BitVec.getElem_allOnes, BitVec.getElem_not, Bool.true_xor]
  have h4 := congrArg BitVec.toNat h3
  rw [BitVec.toNat_xor, h2] at h4
  simp only [BitVec.toNat_ofNat, BitVec.toNat_allOnes] at h4
  rw [Nat.mod_eq_of_lt (by omega)] at h4
  simpa using h4

theorem crcNot_walk' (c : Nat) (h : c < 4294967296) : bits .xor .u32 (c : Int) 4294967295 = ((4294967295 - c : Nat) : Int) := by
  rw [← crcNot_walk c h]
  have e : IntKind.u32.max = ((4294967295 : Nat) : Int) := by decide
  have e' : (4294967295 : Int) = ((4294967295 : Nat) : Int) := rfl
  rw [e, e', u32_xor_nat _ _ (by decide) h, u32_xor_nat _ _ h (by decide), Nat.xor_comm]

set_option maxHeartbeats 400000 in
theorem crc_any (A : Option Addr) (n cap : Nat) (l : List UInt8) (w : World) (h : Bs w A n cap l) :
    Calls Try.prog 8 #[.slice A n cap] w fun e w' => e = .returned (.int .u32 (crc l : Int)) ∧ w = w' := by
  have hn := h.le
  have hm := h.max
  have HL := Lib.hid h.len
  go_enter Try.func8, Try.ntmps8
  go_wp2
  go_loop [3, 8] (fun c i => ∃ k : Nat, k ≤ n ∧ i = .int .i64 k ∧ c = .int .u32 (crcRun (l.take k) : Int)) (fun _ i => n - (intOf i).toNat)
  case atStart => exact ⟨0, Nat.zero_le _, rfl, rfl⟩
  case round =>
    obtain ⟨k, hk, rfl, rfl⟩ := hrel
    by_cases hlt : k < n
    · obtain ⟨b, off, rfl, hb, hc⟩ := h.rd (by omega)
      have hck := hc k hlt
      have hc0 := crcRun_lt (l.take k)
      have HS := Lib.hid (crcRun_take l k (by rw [h.len]; exact hlt))
      generalize hx : l.getD k 0 = x at hck HS
      generalize hc0' : crcRun (l.take k) = c0 at hc0 HS
      have hX := crcXor_walk c0 x hc0
      have hclt := xor_byte_lt c0 x hc0
      generalize hc1 : c0 ^^^ x.toNat = c1 at hX hclt
      have HS' : Hid (crcRun (l.take (k + 1)) = crcBits 8 c1) := by rw [HS.out, ← hc1]; rfl
      clear hc HS hx hc1 hc0'
      go_wp2
      go_loop [3, 16] (fun c i => ∃ j : Nat, j ≤ 8 ∧ i = .int .i64 j ∧ c = .int .u32 (crcBits j c1 : Int)) (fun _ i => 8 - (intOf i).toNat)
      case atStart => exact ⟨0, by omega, rfl, rfl⟩
      case round =>
        obtain ⟨j, hj, rfl, rfl⟩ := hrel
        by_cases hj8 : j < 8
        · have hb1 := crcBits_lt j c1 hclt
          go_wp2
          go_round
          case rel => exact ⟨j + 1, by omega, by go_num, int_of_eq (crcBit_walk _ hb1)⟩
          case measure => simp [intOf]; omega
        · obtain rfl : j = 8 := by omega
          go_wp2
          go_round
          case rel => exact ⟨k + 1, by omega, by go_num, by rw [HS'.out]⟩
          case measure => simp [intOf]; omega
    · have hk' : l.take k = l := List.take_of_length_le (by rw [h.len]; omega)
      rw [hk']
      have hE : bits .xor .u32 IntKind.u32.max ((crcRun l : Nat) : Int) = (crc l : Int) := crcNot_walk _ (crcRun_lt l)
      go_wp2
      go_ret
      exact ⟨rfl, rfl⟩
end Go.Proofs.Ytmhgpbohkdndpaa
