/-
  The contract of the statements' known of chapter 2: it gives true.
-/
import Derived.Test.YtmhgpbohkdndpaaOpen
import Derived.Test.YtmhgpbohkdndpaaSame
namespace Go.Proofs.Ytmhgpbohkdndpaa
open Go.RowKit

theorem leBytes_le {n c : Nat} : (leBytes n c).length = n := leBytes_length n c
theorem seal_drop (l : List UInt8) : (seal_ l).drop 4 = l := by
  unfold seal_
  rw [List.drop_append, leBytes_length]
  simp [List.drop_eq_nil_of_le (Nat.le_of_eq (leBytes_length 4 (crc l)))]
theorem isSealed_seal (l : List UInt8) : isSealed (seal_ l) = true := by
  have e : (seal_ l).drop 4 = l := by
    unfold seal_
    rw [List.drop_append, leBytes_length]
    simp [List.drop_eq_nil_of_le (Nat.le_of_eq (leBytes_length 4 (crc l)))]
  unfold isSealed
  rw [e, seal_length]
  simp
theorem opened_seal (l : List UInt8) : opened (seal_ l) = l := by
  unfold opened
  rw [if_pos (isSealed_seal l)]
  unfold seal_
  rw [List.drop_append, leBytes_length]
  simp [List.drop_eq_nil_of_le (Nat.le_of_eq (leBytes_length 4 (crc l)))]

/-- The bytes of a constant, in a new block. -/
theorem Bs.const (w : World) (l : List UInt8) (T : TypeId) (fr : Nat × Nat) (hl : l.length ≤ 9223372036854775807) : Bs (w.alloc (.cells (bvs l).toArray T fr)) (some ⟨w.heap.size, 0, none⟩) l.length l.length l :=
  ⟨rfl, Nat.le_refl _, hl, by simp, fun _ => ⟨w.heap.size, 0, rfl, by simp, fun i hi => by
    rw [World.cell?_alloc_mark]
    simp [bvs, bv, hi, List.getD]⟩⟩

def ab : List UInt8 := [97, 98]
def digits : List UInt8 := [49, 50, 51, 52, 53, 54, 55, 56, 57]
theorem crc_digits : crc digits = 3421780262 := by decide +kernel

set_option maxHeartbeats 400000 in
theorem known_any (w : World) : Calls Try.prog 10 #[] w fun e w' => e = .returned (.bool true) ∧ Ev w w' := by
  have kc := fun (w : World) (C : Array Value) (n c : Nat) => Lib.run_convert_bytes_const (P := Try.prog) w 22 5 C n c Try.underlying22 Try.underlying5
  have hab := Lib.hid (Bs.const w ab 5 (2, 3) (by decide))
  go_enter Try.func10, Try.ntmps10
  go_wp2_with fail
  refine (seal_any _ 2 2 ab _ hab.out (by omega)).mono ?_
  rintro e w1 ⟨v, rfl, hF⟩
  have hE1 := hF.ev
  obtain ⟨A, cap, rfl, hown, _⟩ := hF
  go_wp2_with fail
  refine (open_any A _ cap (seal_ ab) w1 (Bs.own hown) (by decide)).mono ?_
  rintro e w2 ⟨v, rfl, hF2⟩
  rw [isSealed_seal, opened_seal] at *
  have hE2 := hF2.ev
  obtain ⟨A2, cap2, rfl, hown2, _⟩ := hF2
  have hd := Lib.hid (Bs.const w2 digits 5 (9, 10) (by decide))
  have hs2 := Lib.hid ((Bs.own hown2).below (Ev.alloc w2 (.cells (bvs digits).toArray 5 (9, 10))))
  go_wp2_with fail
  refine (crc_any _ 9 9 digits _ hd.out).mono ?_
  rintro e w3 ⟨rfl, rfl⟩
  rw [crc_digits]
  have hst := hs2.out.str (P := Try.prog) 22 9 5 Try.underlying22 Try.underlying5 Try.underlying9
  go_wp2
  go_ret
  exact ⟨rfl, ((Ev.alloc w _).trans hE1).trans (hE2.trans (Ev.alloc w2 _))⟩

end Go.Proofs.Ytmhgpbohkdndpaa
