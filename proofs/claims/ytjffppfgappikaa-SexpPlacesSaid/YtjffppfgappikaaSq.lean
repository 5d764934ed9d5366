/-
  The walk of SexpPlaces.
-/
import Derived.Test.YtjffppfgappikaaSp
import Derived.Deep.DeepCutAuto
namespace Go.Proofs.Ytjffppfgappikaa
open Go.RowKit
set_option linter.unusedVariables false

set_option maxRecDepth 100000 in
set_option maxHeartbeats 2000000 in
theorem places_walk (s0 : ByteArray) (w : World) (u0 : s0.size ≤ maxLen) :
    Calls Try.prog 3 #[.string s0] w fun e w' => e = .returned (.bool true) ∧ Ev w w' := by
  unfold maxLen at u0
  go_enter Try.func3, Try.ntmps3
  go_upto_if 8 with fail
  go_cut [0] (fun v wx => ∃ s1 : ByteArray, v = .string s1 ∧ s1.size ≤ 600 ∧ w = wx)
  case first =>
    by_cases hs : (600 : Int) < (s0.size : Int)
    · have hz : (s0.extract 0 600).size = 600 := by
        have h1 : (s0.extract 0 600).data.toList.length = (s0.extract 0 600).size := by rw [Array.length_toList]; rfl
        have h2 : s0.data.toList.length = s0.size := by rw [Array.length_toList]; rfl
        rw [← h1, Lib.extract_eq, List.drop_zero, List.length_take, h2]
        omega
      have HZ := Lib.hid hz
      have i1 : (600 : Int) ≤ (s0.size : Int) := by omega
      clear hz
      go_wp2_with fail
      go_meet
      exact ⟨s0.extract 0 600, rfl, by rw [HZ.out]; exact Nat.le_refl _, rfl⟩
    · go_wp2_with fail
      go_meet
      exact ⟨s0, rfl, by omega, rfl⟩
  case rest =>
    obtain ⟨s1, rfl, hs1, rfl⟩ := hcut
    clear u0
    have hll : s1.data.toList.length = s1.size := by rw [Array.length_toList]; rfl
    have hRd := sx_read s1 w (by omega)
    have hpl := sxRead_placed s1.data.toList
    have HKn := Lib.hid known7_any
    rw [hll] at hpl
    generalize sxRead s1.data.toList = R at *
    obtain ⟨Rt, Rw, Rp⟩ := R
    simp only at hpl
    by_cases hw : Rw = 0
    · subst hw
      obtain ⟨b, e, hsp⟩ := hpl.2 rfl
      have HSP := Lib.hid hsp
      have HRd := Lib.hid hRd
      have HPA : Hid (∀ (b0 : Nat) (K : List Nat) (w : World) (m : M), Lies b0 K w m → PlacedAt s1 m w) := Lib.hid fun _ _ _ _ h => placed_any s1 (by omega) h
      have hel : e ≤ s1.size := by have := hsp.pos.2.2.1; omega
      clear hpl hsp hRd hll
      go_wp2_with (first
        | ((with_reducible refine (HRd.out).mono ?_); rintro r w1 ⟨m, rfl, hmt, hml, hE1⟩; simp only []; have hP := HPA.out _ _ _ _ hml (w1.alloc (.cells #[.int .i64 m.kind, .string ⟨m.s.toArray⟩, .int .i64 m.n, .slice m.A m.kids.length m.cap, .int .i64 (m.pos : Int)] 24)) (Ev.alloc _ _) b e 0 s1.size (by rw [hmt]; exact HSP.out) (Nat.zero_le _) hel (Nat.le_refl _); rw [show (((0 : Nat) : Int)) = 0 from rfl] at hP; have HP := Lib.hid hP; clear hP hmt hml)
        | ((with_reducible refine (HP.out).mono ?_); rintro r w8 ⟨rfl, hE8⟩)
        | ((with_reducible refine (HKn.out _).mono ?_); rintro r w9 ⟨rfl, hE9⟩))
      go_ret
      exact ⟨rfl, ((hE1.trans (Ev.alloc _ _)).trans hE8).trans hE9⟩
    · have hp2 := hpl.1 hw
      have hw' : (Rw != 0) = true := bne_iff_ne.2 hw
      have i1 : (0 : Int) ≤ (Rp : Int) := by omega
      have i2 : (Rp : Int) ≤ (s1.size : Int) := by omega
      have HRd := Lib.hid hRd
      clear hpl hRd hll
      go_wp2_with (first
        | ((with_reducible refine (HRd.out).mono ?_); rintro r w1 ⟨m, rfl, hmt, hml, hE1⟩; simp only []; clear hmt hml)
        | ((with_reducible refine (HKn.out _).mono ?_); rintro r w9 ⟨rfl, hE9⟩))
      go_ret
      exact ⟨rfl, (hE1.trans (Ev.alloc _ _)).trans hE9⟩
end Go.Proofs.Ytjffppfgappikaa
