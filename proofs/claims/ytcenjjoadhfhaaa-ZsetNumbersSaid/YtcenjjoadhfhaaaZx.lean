/-
  The contract of package zset: Decode.
-/
import Derived.Test.YtcenjjoadhfhaaaZw
namespace Go.Proofs.Ytcenjjoadhfhaaa
open Go.RowKit
set_option linter.unusedVariables false

theorem Ev.new1 {w w1 w2 : World} {p : Nat} (h : Ev w w1) (hp : w.heap.size ≤ p) (k : But [p] w1 w2) : Ev w w2 :=
  Below.trans h (k.below h.size (by simpa using hp))

/-- What Decode answers: the error (0: none), and the set. -/
def decF (L : List UInt8) : Nat × List I :=
  if (rdEnd L (rdSet L 0 0).2.1 (rdSet L 0 0).2.2).1 ≠ 0 then ((rdEnd L (rdSet L 0 0).2.1 (rdSet L 0 0).2.2).1, [])
  else cond (setB (rdSet L 0 0).1) (0, (rdSet L 0 0).1) (12, [])
/-- The answer as it lies in memory. -/
def DecOut (res : Nat × List I) (e : Ending) (w' : World) : Prop := ∃ A' cap' Z', e = .returned (.tuple #[.slice A' res.2.length cap', .int .i64 (res.1 : Int)]) ∧ Zs w'.heap.size w' A' res.2.length cap' Z' ∧ itemsOf Z' = res.2

set_option maxRecDepth 100000 in
set_option maxHeartbeats 4000000 in
theorem zset_decode {A : Option Addr} {n cap : Nat} {L : List UInt8} (w : World) (h : Bs w A n cap L) (hn : n ≤ 140737488355328) (hkp : ∀ x ∈ (rdSet L 0 0).1, KeptAs x.2.1 x.2.2) :
    Calls Try.prog 7 #[.slice A n cap] w fun e w' => DecOut (decF L) e w' ∧ Ev w w' := by
  have HNR := Lib.hid (new_reader A n cap L w h hn)
  have HRD := Lib.hid (fun (p : Nat) (A1 : Option Addr) (cap1 : Nat) (w1 : World) (h1 : Rd p A1 n cap1 L 0 0 w1) => zset_read w1 h1)
  have HKP := Lib.hid hkp
  obtain ⟨res, hres⟩ : ∃ res, decF L = res := ⟨_, rfl⟩
  rw [hres]
  unfold decF at hres
  generalize rdSet L 0 0 = RR at *
  obtain ⟨S, e0, q0⟩ := RR
  simp only at hres HRD HKP
  have HEN := Lib.hid (fun (p : Nat) (A1 : Option Addr) (cap1 : Nat) (w1 : World) (h1 : Rd p A1 n cap1 L e0 q0 w1) => reader_end w1 h1)
  generalize rdEnd L e0 q0 = EE at *
  obtain ⟨ee, eq⟩ := EE
  simp only at hres HEN
  clear h hkp
  by_cases hee : ee = 0
  · subst hee
    rw [if_neg (by simp)] at hres
    have HRT := Lib.hid (fun (A1 : Option Addr) (k cap1 : Nat) (Z : List J) (w1 : World) (h1 : Zs w1.heap.size w1 A1 k cap1 Z) (hz : itemsOf Z = S) => zset_right w1 h1 (fun z hz' => HKP.out z.2 (by rw [← hz]; exact List.mem_map.2 ⟨z, hz', rfl⟩)))
    obtain ⟨sb, hsb⟩ : ∃ sb, setB S = sb := ⟨_, rfl⟩
    rw [hsb] at hres
    have HSB := Lib.hid hsb
    have HRES := Lib.hid hres
    clear hsb hres
    cases sb
    · go_enter Try.func7, Try.ntmps7
      go_wp2_with (first | ((with_reducible refine HNR.out.mono ?_); rintro x w1 ⟨p, A1, cap1, rfl, hR1, hp1, hA1, hE1⟩) | ((with_reducible refine (HRD.out p A1 cap1 _ hR1).mono ?_); rintro x w2 ⟨v, Z, rfl, hz2, hi2, hh2, hR2, hB2⟩; obtain ⟨A2, cap2, rfl, hzs2, _⟩ := hz2.form) | ((with_reducible refine (HEN.out p A1 cap1 _ hR2).mono ?_); rintro x w3 ⟨rfl, q3, rfl⟩; have hrt := HRT.out A2 Z.length cap2 Z (w2.drewN q3) ((hzs2.ev (Ev.drewN w2 q3)).wide (Ev.drewN w2 q3).size (Nat.le_refl _)) hi2; rw [hi2, HSB.out] at hrt; have HRT2 := Lib.hid hrt) | ((with_reducible refine HRT2.out.mono ?_); rintro x w4 ⟨rfl, hE4⟩))
      go_ret2
      have hE := ((hE1.new1 hp1 hB2).trans (Ev.drewN w2 q3)).trans hE4
      rw [← HRES.out]
      exact ⟨⟨none, 0, [], rfl, Zs.nil_ (Nat.le_refl _), rfl⟩, hE⟩
    · go_enter Try.func7, Try.ntmps7
      go_wp2_with (first | ((with_reducible refine HNR.out.mono ?_); rintro x w1 ⟨p, A1, cap1, rfl, hR1, hp1, hA1, hE1⟩) | ((with_reducible refine (HRD.out p A1 cap1 _ hR1).mono ?_); rintro x w2 ⟨v, Z, rfl, hz2, hi2, hh2, hR2, hB2⟩; obtain ⟨A2, cap2, rfl, hzs2, _⟩ := hz2.form) | ((with_reducible refine (HEN.out p A1 cap1 _ hR2).mono ?_); rintro x w3 ⟨rfl, q3, rfl⟩; have hrt := HRT.out A2 Z.length cap2 Z (w2.drewN q3) ((hzs2.ev (Ev.drewN w2 q3)).wide (Ev.drewN w2 q3).size (Nat.le_refl _)) hi2; rw [hi2, HSB.out] at hrt; have HRT2 := Lib.hid hrt) | ((with_reducible refine HRT2.out.mono ?_); rintro x w4 ⟨rfl, hE4⟩))
      go_ret2
      have hE := ((hE1.new1 hp1 hB2).trans (Ev.drewN w2 q3)).trans hE4
      have hl : S.length = Z.length := by rw [← hi2, itemsOf_length]
      have hz4 := ((hzs2.ev (Ev.drewN w2 q3)).ev hE4).wide ((Ev.drewN w2 q3).trans hE4).size (Nat.le_refl _)
      rw [← HRES.out]
      refine ⟨⟨A2, cap2, Z, ?_, ?_, hi2⟩, hE⟩
      · show Ending.returned (.tuple #[.slice A2 Z.length cap2, .int .i64 0]) = Ending.returned (.tuple #[.slice A2 S.length cap2, .int .i64 0])
        rw [hl]
      · show Zs _ _ A2 S.length cap2 Z
        rw [hl]; exact hz4
  · rw [if_pos hee] at hres
    have HRES := Lib.hid hres
    have i1 : ¬ ee = 0 := hee
    clear hres hee
    go_enter Try.func7, Try.ntmps7
    go_wp2_with (first | ((with_reducible refine HNR.out.mono ?_); rintro x w1 ⟨p, A1, cap1, rfl, hR1, hp1, hA1, hE1⟩) | ((with_reducible refine (HRD.out p A1 cap1 _ hR1).mono ?_); rintro x w2 ⟨v, Z, rfl, hz2, hi2, hh2, hR2, hB2⟩; obtain ⟨A2, cap2, rfl, hzs2, _⟩ := hz2.form) | ((with_reducible refine (HEN.out p A1 cap1 _ hR2).mono ?_); rintro x w3 ⟨rfl, q3, rfl⟩))
    go_ret2
    have hE := (hE1.new1 hp1 hB2).trans (Ev.drewN w2 q3)
    rw [← HRES.out]
    exact ⟨⟨none, 0, [], rfl, Zs.nil_ (Nat.le_refl _), rfl⟩, hE⟩
end Go.Proofs.Ytcenjjoadhfhaaa
