/-
  The contracts of the document's own answers for chapter 2: ref.Crc, ref.Seal, ref.Open.
-/
import Derived.Test.YtmhgpbohkdndpaaOpen
import Derived.BigQuiet
import Derived.Deep.QuietTactic
import Derived.Deep.RegionHeld3
namespace Go.Proofs.Ytmhgpbohkdndpaa
open Go.RowKit

theorem refBit_odd (c : Nat) (h : c < 4294967296) (ho : c % 2 = 1) : bits .xor .u32 ((c : Int) / 2) 3988292384 = ((crcBit c : Nat) : Int) := by
  have e := u32_xor_nat (c / 2) 3988292384 (by omega) (by decide)
  rw [crcBit, ho, Nat.mul_one, ← e]
  rfl
theorem refBit_even (c : Nat) (ho : c % 2 = 0) : ((c : Int) / 2) = ((crcBit c : Nat) : Int) := by
  rw [crcBit, ho, Nat.mul_zero, Nat.xor_zero]
  omega
theorem refAnd (c : Nat) (h : c < 4294967296) : bits .and .u32 (c : Int) 1 = ((c % 2 : Nat) : Int) := by
  have e1 := u32_and_nat c 1 h (by decide)
  rw [Nat.and_one_is_mod] at e1
  exact e1

set_option maxHeartbeats 400000 in
theorem refCrc_any (A : Option Addr) (n cap : Nat) (l : List UInt8) (w : World) (h : Bs w A n cap l) :
    Calls Try.prog 13 #[.slice A n cap] w fun e w' => e = .returned (.int .u32 (crc l : Int)) ∧ w = w' := by
  have hn := h.le
  have hm := h.max
  have HL := Lib.hid h.len
  go_enter Try.func13, Try.ntmps13
  go_wp2
  go_loop [3, 4] (fun c i => ∃ k : Nat, k ≤ n ∧ i = .int .i64 k ∧ c = .int .u32 (crcRun (l.take k) : Int)) (fun _ i => n - (intOf i).toNat)
  case atStart => exact ⟨0, Nat.zero_le _, rfl, rfl⟩
  case round =>
    obtain ⟨k, hk, rfl, rfl⟩ := hrel
    by_cases hlt : k < n
    · obtain ⟨b, off, rfl, hb, hc⟩ := h.rd (by omega)
      have hck := hc k hlt
      have hc0 := crcRun_lt (l.take k)
      have HS := Lib.hid (crcRun_take l k (by rw [h.len]; exact hlt))
      generalize hx : l.getD k 0 = x at hck HS
      generalize hc0' : crcRun (l.take k) = c0 at hc0 HS
      have hX := crcXor_walk c0 x hc0
      have hclt := xor_byte_lt c0 x hc0
      generalize hc1 : c0 ^^^ x.toNat = c1 at hX hclt
      have HS' : Hid (crcRun (l.take (k + 1)) = crcBits 8 c1) := by rw [HS.out, ← hc1]; rfl
      clear hc HS hx hc1 hc0'
      go_wp2
      go_loop [3, 5] (fun c i => ∃ j : Nat, j ≤ 8 ∧ i = .int .i64 j ∧ c = .int .u32 (crcBits j c1 : Int)) (fun _ i => 8 - (intOf i).toNat)
      case atStart => exact ⟨0, by omega, rfl, rfl⟩
      case round =>
        obtain ⟨j, hj, rfl, rfl⟩ := hrel
        by_cases hj8 : j < 8
        · have hb1 := crcBits_lt j c1 hclt
          have HN : Hid (crcBits (j + 1) c1 = crcBit (crcBits j c1)) := Lib.hid rfl
          have hA := refAnd _ hb1
          generalize hq : crcBits j c1 = q at hb1 HN hA
          clear hq
          rcases Nat.mod_two_eq_zero_or_one q with ho | ho
          · rw [ho] at hA
            have HO := Lib.hid ho
            clear ho
            go_wp2
            go_round
            case rel => exact ⟨j + 1, by omega, by go_num, int_of_eq (by rw [HN.out]; exact refBit_even q HO.out)⟩
            case measure => simp [intOf]; omega
          · rw [ho] at hA
            have HO := Lib.hid ho
            clear ho
            go_wp2
            go_round
            case rel => exact ⟨j + 1, by omega, by go_num, int_of_eq (by rw [HN.out]; exact refBit_odd q hb1 HO.out)⟩
            case measure => simp [intOf]; omega
        · obtain rfl : j = 8 := by omega
          go_wp2
          go_round
          case rel => exact ⟨k + 1, by omega, by go_num, by rw [HS'.out]⟩
          case measure => simp [intOf]; omega
    · have hk' : l.take k = l := List.take_of_length_le (by rw [h.len]; omega)
      rw [hk']
      have hE : bits .xor .u32 ((crcRun l : Nat) : Int) 4294967295 = (crc l : Int) := crcNot_walk' _ (crcRun_lt l)
      go_wp2
      go_ret
      exact ⟨rfl, rfl⟩

theorem leBytes4 (c : Nat) : leBytes 4 c = [UInt8.ofNat c, UInt8.ofNat (c / 256), UInt8.ofNat (c / 65536), UInt8.ofNat (c / 16777216)] := by
  simp [leBytes, Nat.div_div_eq_div_mul]
/-- The four cells, as the walk reckons them. -/
theorem leCells (c : Nat) (h : c < 4294967296) : [Value.int .u8 ((c : Int) % 256), .int .u8 ((c : Int) / 256 % 256), .int .u8 ((c : Int) / 65536 % 256), .int .u8 ((c : Int) / 16777216)] = bvs (leBytes 4 c) := by
  have e : ((c : Int) / 16777216) = (c : Int) / 16777216 % 256 := by omega
  rw [leBytes4, e]
  simp [bvs, bv]

set_option maxHeartbeats 400000 in
theorem refSeal_any (A : Option Addr) (n cap : Nat) (l : List UInt8) (w : World) (h : Bs w A n cap l) (hsz : n ≤ 140737488355000) :
    Calls Try.prog 14 #[.slice A n cap] w (RetFresh (seal_ l) w) := by
  go_enter Try.func14, Try.ntmps14
  go_wp2_with fail
  refine (refCrc_any A n cap l w h).mono ?_
  rintro e w' ⟨rfl, rfl⟩
  have hc0 := crc_lt l
  generalize hcc : crc l = c0 at hc0
  have HC := Lib.hid hcc
  clear hcc
  have hown := World.ownsRow_lit (base := w.heap.size) (e := 5) (size := 1) w #[Value.int .u8 ((c0 : Int) % 256), .int .u8 ((c0 : Int) / 256 % 256), .int .u8 ((c0 : Int) / 65536 % 256), .int .u8 ((c0 : Int) / 16777216)] 4 (Nat.le_refl _) (by decide) rfl
  rw [show (#[Value.int .u8 ((c0 : Int) % 256), .int .u8 ((c0 : Int) / 256 % 256), .int .u8 ((c0 : Int) / 65536 % 256), .int .u8 ((c0 : Int) / 16777216)]).toList = bvs (leBytes 4 c0) from leCells c0 hc0] at hown
  go_wp2_with (first
    | (at_builtin; refine wpList_append_bytes rfl _ _ rfl Try.underlying22 Try.infoU8 w.heap.size _ 4 (leBytes 4 c0) rfl hown A n cap l rfl (h.below ((Below.refl _ _).alloc (Nat.le_refl _) _)) (by omega) (by simp) ?_; intro v' w1 hown1 hgrow1)
    | fail)
  have hb : Below w.heap.size w w1 := ((Below.refl w.heap.size w).alloc (Nat.le_refl _) _).grown hgrow1 (by simp) (fun k hk => by cases hk; exact Nat.le_refl _)
  go_wp2
  go_ret
  refine ⟨_, rfl, Fresh.mk ?_ hb⟩
  rw [seal_length, h.len, seal_, HC.out, Nat.add_comm]
  exact hown1

end Go.Proofs.Ytmhgpbohkdndpaa
