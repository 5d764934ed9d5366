/-
  SumTells: whatever the input, the law gives true and leaves its arguments as they were. No condition.
-/
import Derived.Test.YtmhgpbohkdndpaaKnown2
import Derived.Test.YtmhgpbohkdndpaaOps
import Derived.Test.YtmhgpbohkdndpaaRefOpen2
import Derived.Deep.DeepCutAuto
import Derived.ProofKit
import Derived.OpenShut
import Derived.ShutString
import Derived.ChangeOld
namespace Go.Proofs.Ytmhgpbohkdndpaa.sumTells
open Go.ChangeShapes Go.WideShapes Go.ChangeAt Go.RowKit
set_option linter.unusedVariables false

theorem own : ownKnob Try.prog.godebug = none := by kernel_rfl
theorem laidOut : laidOutB Try.prog = true := by kernel_rfl

set_option maxRecDepth 100000 in
set_option maxHeartbeats 1000000 in
theorem walk (A0 : Option Addr) (n0 cap0 : Nat) (l0 : List UInt8) (w : World) (h0 : Bs w A0 n0 cap0 l0) :
    Calls Try.prog 4 #[.slice A0 n0 cap0] w fun e w' => e = .returned (.bool true) ∧ Ev w w' := by
  have hmx := h0.max
  have hle := h0.le
  go_enter Try.func4, Try.ntmps4
  go_upto_if 11 with fail
  go_cut [0] (fun v wx => ∃ (nb : Nat) (lb : List UInt8), v = .slice A0 nb cap0 ∧ nb ≤ 3000 ∧ Bs wx A0 nb cap0 lb ∧ w = wx)
  case first =>
    by_cases hb : 3000 < n0
    · have hto := h0.to (show 3000 ≤ n0 by omega)
      go_wp2_with fail
      go_meet
      exact ⟨3000, _, rfl, by omega, hto, rfl⟩
    · go_wp2_with fail
      go_meet
      exact ⟨n0, l0, rfl, by omega, h0, rfl⟩
  case rest =>
    obtain ⟨nb, lb, rfl, hnb, hB, rfl⟩ := hcut
    clear hmx hle h0
    have HB := Lib.hid hB.len
    have hmx := hB.max
    have hle := hB.le
    have hmix : Try.prog.follows .mixedOrders = true := by kernel_rfl
    go_wp2_with fail
    refine (roomy_any A0 nb cap0 lb 165 w hB (by omega)).mono ?_
    rintro e w1 ⟨v, rfl, hF⟩
    have hE1 := hF.ev
    obtain ⟨AF, capf, rfl, hown1, _⟩ := hF
    have hF1 := Bs.own hown1
    have hrl : (roomy lb 165).length = nb + 80 := by rw [roomy_length, HB.out]
    rw [hrl] at hF1 ⊢
    have hto := hF1.to (show nb ≤ nb + 80 by omega)
    rw [show (roomy lb 165).take nb = lb by rw [← HB.out]; exact roomy_take lb 165] at hto
    have hlf := hF1.le
    have hb1 := hB.below hE1
    clear hown1 hrl hB
    go_wp2_with fail
    refine (open_any AF nb capf lb w1 hto (by omega)).mono ?_
    rintro e w2 ⟨v, rfl, hF2⟩
    have hE2 := hF2.ev
    obtain ⟨AP, capp, rfl, hown2, _⟩ := hF2
    have hP2 := Bs.own hown2
    have hb2 := hb1.below hE2
    clear hown2
    go_wp2_with fail
    refine (refOpen_any A0 nb cap0 lb w2 hb2 (by omega)).mono ?_
    rintro e w3 ⟨v, rfl, hF3⟩
    have hE3 := hF3.ev
    obtain ⟨AQ, capq, rfl, hown3, _⟩ := hF3
    have hQ := Bs.own hown3
    have hP := hP2.below hE3
    have hb := hb2.below hE3
    have hX := (hto.below hE2).below hE3
    have hF := (hF1.below hE2).below hE3
    clear hown3 hP2 hb1 hb2 hto hF1
    generalize (opened lb).length = np at *
    generalize isSealed lb = r at *
    go_wp2_with fail
    refine wp_region_slots hmix [fun v _ => v = .slice AF nb capf, fun v _ => v = .int .u32 (crc lb : Int), fun v _ => v = .slice A0 nb cap0, fun v _ => v = .int .u32 (crc lb : Int), fun v _ => v = .bool true, fun v _ => v = .bool true, fun v _ => v = .slice AF nb capf, Holds (seal_ lb), fun v _ => v = .string ⟨(seal_ lb).toArray⟩, fun v _ => v = .slice A0 nb cap0, Holds (seal_ lb), fun v _ => v = .string ⟨(seal_ lb).toArray⟩, fun v _ => v = .bool true, fun v _ => v = .bool true, fun v _ => v = .bool true, fun v _ => v = .slice AP np capp, fun v _ => v = .string ⟨(opened lb).toArray⟩, fun v _ => v = .slice AQ np capq, fun v _ => v = .string ⟨(opened lb).toArray⟩, fun v _ => v = .bool true, fun v _ => v = .bool true, fun v _ => v = .bool true, fun v _ => v = .bool r, fun v _ => v = .bool r, fun v _ => v = .bool true, fun v _ => v = .bool true, fun v _ => v = .bool true, fun v _ => v = .slice AF (nb + 80) capf, fun v _ => v = .slice A0 nb cap0, fun v _ => v = .bool true, fun v _ => v = .bool true, fun v _ => v = .bool true, fun v _ => v = .bool true, fun v _ => v = .bool true, fun v _ => v = .bool true]
      64 rfl (by kernel_rfl) ⟨mono_eq _, mono_eq _, mono_eq _, mono_eq _, mono_eq _, mono_eq _, mono_eq _, Holds.mono _, mono_eq _, mono_eq _, Holds.mono _, mono_eq _, mono_eq _, mono_eq _, mono_eq _, mono_eq _, mono_eq _, mono_eq _, mono_eq _, mono_eq _, mono_eq _, mono_eq _, mono_eq _, mono_eq _, mono_eq _, mono_eq _, mono_eq _, mono_eq _, mono_eq _, mono_eq _, mono_eq _, mono_eq _, mono_eq _, mono_eq _, mono_eq _, trivial⟩ ?_ ?_
    · refine ops_cons 0 ?_ (ops_cons 1 ?_ (ops_cons 2 ?_ (ops_cons 3 ?_ (ops_cons 4 ?_ (ops_cons 5 ?_ (ops_cons 6 ?_ (ops_cons 7 ?_ (ops_cons 8 ?_ (ops_cons 9 ?_ (ops_cons 10 ?_ (ops_cons 11 ?_ (ops_cons 12 ?_ (ops_cons 13 ?_ (ops_cons 14 ?_ (ops_cons 15 ?_ (ops_cons 16 ?_ (ops_cons 17 ?_ (ops_cons 18 ?_ (ops_cons 19 ?_ (ops_cons 20 ?_ (ops_cons 21 ?_ (ops_cons 22 ?_ (ops_cons 23 ?_ (ops_cons 24 ?_ (ops_cons 25 ?_ (ops_cons 26 ?_ (ops_cons 27 ?_ (ops_cons 28 ?_ (ops_cons 29 ?_ (ops_cons 30 ?_ (ops_cons 31 ?_ (ops_cons 32 ?_ (ops_cons 33 ?_ (ops_cons 34 ?_ (ops_nil 35)))))))))))))))))))))))))))))))))))
      · refine op_value fun a w c => ⟨(wanted_plain rfl), _, run_move _ rfl w, (c.was 4 (by kernel_rfl) rfl)⟩
      · refine op_call fun a w c => ⟨(wanted_plain rfl), 8, #[.slice AF nb capf], ?_, ?_⟩
        · rw [run_call 8 _ _ rfl (by kernel_rfl)]
          have e30 : a.eval (.tmp 30) = .slice AF nb capf := (c.new 0 30 (by kernel_rfl) (by kernel_rfl))
          simp [e30]
        · refine (crc_any _ _ _ _ _ (hX.below c.ev)).mono ?_
          rintro e w5 ⟨rfl, rfl⟩
          exact ⟨_, rfl, Ev.refl _, rfl⟩
      · refine op_value fun a w c => ⟨(wanted_plain rfl), _, run_move _ rfl w, (c.was 0 (by kernel_rfl) rfl)⟩
      · refine op_call fun a w c => ⟨(wanted_plain rfl), 13, #[.slice A0 nb cap0], ?_, ?_⟩
        · rw [run_call 13 _ _ rfl (by kernel_rfl)]
          have e32 : a.eval (.tmp 32) = .slice A0 nb cap0 := (c.new 2 32 (by kernel_rfl) (by kernel_rfl))
          simp [e32]
        · refine (refCrc_any _ _ _ _ _ (hb.below c.ev)).mono ?_
          rintro e w5 ⟨rfl, rfl⟩
          exact ⟨_, rfl, Ev.refl _, rfl⟩
      · refine op_value fun a w c => ⟨(wanted_plain rfl), .bool true, ?_, rfl⟩
        have e31 : a.eval (.tmp 31) = .int .u32 (crc lb : Int) := (c.new 1 31 (by kernel_rfl) (by kernel_rfl))
        have e33 : a.eval (.tmp 33) = .int .u32 (crc lb : Int) := (c.new 3 33 (by kernel_rfl) (by kernel_rfl))
        generalize a.eval = ρ at e31 e33 ⊢
        simp [execOp, e31, e33, go_sem]
      · refine op_value fun a w c => ⟨(wanted_plain rfl), _, run_move _ rfl w, (c.new 4 34 (by kernel_rfl) (by kernel_rfl))⟩
      · refine op_value fun a w c => ⟨(wanted_yes rfl (by kernel_rfl) (c.new 5 35 (by kernel_rfl) (by kernel_rfl))), _, run_move _ rfl w, (c.was 4 (by kernel_rfl) rfl)⟩
      · refine op_call fun a w c => ⟨(wanted_yes rfl (by kernel_rfl) (c.new 5 35 (by kernel_rfl) (by kernel_rfl))), 9, #[.slice AF nb capf], ?_, ?_⟩
        · rw [run_call 9 _ _ rfl (by kernel_rfl)]
          have e36 : a.eval (.tmp 36) = .slice AF nb capf := (c.new 6 36 (by kernel_rfl) (by kernel_rfl))
          simp [e36]
        · refine (seal_any _ _ _ _ _ (hX.below c.ev) (by omega)).mono ?_
          rintro e w5 ⟨v, rfl, hF⟩
          exact ⟨v, rfl, hF.ev, hF.holds⟩
      · refine op_value fun a w c => ⟨(wanted_yes rfl (by kernel_rfl) (c.new 5 35 (by kernel_rfl) (by kernel_rfl))), _, run_str rfl Try.underlying22 Try.underlying5 Try.underlying9 rfl ((c.new 7 37 (by kernel_rfl) (by kernel_rfl)) : Holds (seal_ lb) _ _), rfl⟩
      · refine op_value fun a w c => ⟨(wanted_yes rfl (by kernel_rfl) (c.new 5 35 (by kernel_rfl) (by kernel_rfl))), _, run_move _ rfl w, (c.was 0 (by kernel_rfl) rfl)⟩
      · refine op_call fun a w c => ⟨(wanted_yes rfl (by kernel_rfl) (c.new 5 35 (by kernel_rfl) (by kernel_rfl))), 14, #[.slice A0 nb cap0], ?_, ?_⟩
        · rw [run_call 14 _ _ rfl (by kernel_rfl)]
          have e39 : a.eval (.tmp 39) = .slice A0 nb cap0 := (c.new 9 39 (by kernel_rfl) (by kernel_rfl))
          simp [e39]
        · refine (refSeal_any _ _ _ _ _ (hb.below c.ev) (by omega)).mono ?_
          rintro e w5 ⟨v, rfl, hF⟩
          exact ⟨v, rfl, hF.ev, hF.holds⟩
      · refine op_value fun a w c => ⟨(wanted_yes rfl (by kernel_rfl) (c.new 5 35 (by kernel_rfl) (by kernel_rfl))), _, run_str rfl Try.underlying22 Try.underlying5 Try.underlying9 rfl ((c.new 10 40 (by kernel_rfl) (by kernel_rfl)) : Holds (seal_ lb) _ _), rfl⟩
      · refine op_value fun a w c => ⟨(wanted_yes rfl (by kernel_rfl) (c.new 5 35 (by kernel_rfl) (by kernel_rfl))), .bool true, ?_, rfl⟩
        have e38 : a.eval (.tmp 38) = .string ⟨(seal_ lb).toArray⟩ := (c.new 8 38 (by kernel_rfl) (by kernel_rfl))
        have e41 : a.eval (.tmp 41) = .string ⟨(seal_ lb).toArray⟩ := (c.new 11 41 (by kernel_rfl) (by kernel_rfl))
        generalize a.eval = ρ at e38 e41 ⊢
        simp [execOp, e38, e41, go_sem]
      · refine op_value fun a w c => ⟨(wanted_plain rfl), _, run_pick_true rfl (c.new 5 35 (by kernel_rfl) (by kernel_rfl)) w, (c.new 12 42 (by kernel_rfl) (by kernel_rfl))⟩
      · refine op_value fun a w c => ⟨(wanted_plain rfl), _, run_move _ rfl w, (c.new 13 43 (by kernel_rfl) (by kernel_rfl))⟩
      · refine op_value fun a w c => ⟨(wanted_yes rfl (by kernel_rfl) (c.new 14 44 (by kernel_rfl) (by kernel_rfl))), _, run_move _ rfl w, (c.was 5 (by kernel_rfl) rfl)⟩
      · refine op_value fun a w c => ⟨(wanted_yes rfl (by kernel_rfl) (c.new 14 44 (by kernel_rfl) (by kernel_rfl))), _, run_str rfl Try.underlying22 Try.underlying5 Try.underlying9 ((c.new 15 45 (by kernel_rfl) (by kernel_rfl)) : a.eval (.tmp 45) = .slice AP np capp) ⟨_, _, _, rfl, hP.below c.ev⟩, rfl⟩
      · refine op_value fun a w c => ⟨(wanted_yes rfl (by kernel_rfl) (c.new 14 44 (by kernel_rfl) (by kernel_rfl))), _, run_move _ rfl w, (c.was 7 (by kernel_rfl) rfl)⟩
      · refine op_value fun a w c => ⟨(wanted_yes rfl (by kernel_rfl) (c.new 14 44 (by kernel_rfl) (by kernel_rfl))), _, run_str rfl Try.underlying22 Try.underlying5 Try.underlying9 ((c.new 17 47 (by kernel_rfl) (by kernel_rfl)) : a.eval (.tmp 47) = .slice AQ np capq) ⟨_, _, _, rfl, hQ.below c.ev⟩, rfl⟩
      · refine op_value fun a w c => ⟨(wanted_yes rfl (by kernel_rfl) (c.new 14 44 (by kernel_rfl) (by kernel_rfl))), .bool true, ?_, rfl⟩
        have e46 : a.eval (.tmp 46) = .string ⟨(opened lb).toArray⟩ := (c.new 16 46 (by kernel_rfl) (by kernel_rfl))
        have e48 : a.eval (.tmp 48) = .string ⟨(opened lb).toArray⟩ := (c.new 18 48 (by kernel_rfl) (by kernel_rfl))
        generalize a.eval = ρ at e46 e48 ⊢
        simp [execOp, e46, e48, go_sem]
      · refine op_value fun a w c => ⟨(wanted_plain rfl), _, run_pick_true rfl (c.new 14 44 (by kernel_rfl) (by kernel_rfl)) w, (c.new 19 49 (by kernel_rfl) (by kernel_rfl))⟩
      · refine op_value fun a w c => ⟨(wanted_plain rfl), _, run_move _ rfl w, (c.new 20 50 (by kernel_rfl) (by kernel_rfl))⟩
      · refine op_value fun a w c => ⟨(wanted_yes rfl (by kernel_rfl) (c.new 21 51 (by kernel_rfl) (by kernel_rfl))), _, run_move _ rfl w, (c.was 6 (by kernel_rfl) rfl)⟩
      · refine op_value fun a w c => ⟨(wanted_yes rfl (by kernel_rfl) (c.new 21 51 (by kernel_rfl) (by kernel_rfl))), _, run_move _ rfl w, (c.was 8 (by kernel_rfl) rfl)⟩
      · refine op_value fun a w c => ⟨(wanted_yes rfl (by kernel_rfl) (c.new 21 51 (by kernel_rfl) (by kernel_rfl))), .bool true, ?_, rfl⟩
        have e52 : a.eval (.tmp 52) = .bool r := (c.new 22 52 (by kernel_rfl) (by kernel_rfl))
        have e53 : a.eval (.tmp 53) = .bool r := (c.new 23 53 (by kernel_rfl) (by kernel_rfl))
        generalize a.eval = ρ at e52 e53 ⊢
        simp [execOp, e52, e53, go_sem]
      · refine op_value fun a w c => ⟨(wanted_plain rfl), _, run_pick_true rfl (c.new 21 51 (by kernel_rfl) (by kernel_rfl)) w, (c.new 24 54 (by kernel_rfl) (by kernel_rfl))⟩
      · refine op_value fun a w c => ⟨(wanted_plain rfl), _, run_move _ rfl w, (c.new 25 55 (by kernel_rfl) (by kernel_rfl))⟩
      · refine op_value fun a w c => ⟨(wanted_yes rfl (by kernel_rfl) (c.new 26 56 (by kernel_rfl) (by kernel_rfl))), _, run_move _ rfl w, (c.was 3 (by kernel_rfl) rfl)⟩
      · refine op_value fun a w c => ⟨(wanted_yes rfl (by kernel_rfl) (c.new 26 56 (by kernel_rfl) (by kernel_rfl))), _, run_move _ rfl w, (c.was 0 (by kernel_rfl) rfl)⟩
      · refine op_call fun a w c => ⟨(wanted_yes rfl (by kernel_rfl) (c.new 26 56 (by kernel_rfl) (by kernel_rfl))), 15, #[.slice AF (nb + 80) capf, .slice A0 nb cap0, .int .u8 165], ?_, ?_⟩
        · rw [run_call 15 _ _ rfl (by kernel_rfl)]
          have e57 : a.eval (.tmp 57) = .slice AF (nb + 80) capf := (c.new 27 57 (by kernel_rfl) (by kernel_rfl))
          have e58 : a.eval (.tmp 58) = .slice A0 nb cap0 := (c.new 28 58 (by kernel_rfl) (by kernel_rfl))
          simp [e57, e58, evc]
        · refine (intact_any _ _ _ _ _ _ lb 165 _ (hF.below c.ev) (hb.below c.ev) (by omega)).mono ?_
          rintro e w5 ⟨rfl, hE5⟩
          exact ⟨_, rfl, hE5, rfl⟩
      · refine op_value fun a w c => ⟨(wanted_plain rfl), _, run_pick_true rfl (c.new 26 56 (by kernel_rfl) (by kernel_rfl)) w, (c.new 29 59 (by kernel_rfl) (by kernel_rfl))⟩
      · refine op_value fun a w c => ⟨(wanted_plain rfl), _, run_move _ rfl w, (c.new 30 60 (by kernel_rfl) (by kernel_rfl))⟩
      · refine op_call fun a w c => ⟨(wanted_yes rfl (by kernel_rfl) (c.new 31 61 (by kernel_rfl) (by kernel_rfl))), 10, #[], ?_, ?_⟩
        · rw [run_call 10 _ _ rfl (by kernel_rfl)]
          simp
        · refine (known_any _).mono ?_
          rintro e w5 ⟨rfl, hE5⟩
          exact ⟨_, rfl, hE5, rfl⟩
      · refine op_value fun a w c => ⟨(wanted_plain rfl), _, run_pick_true rfl (c.new 31 61 (by kernel_rfl) (by kernel_rfl)) w, (c.new 32 62 (by kernel_rfl) (by kernel_rfl))⟩
      · refine op_value fun a w c => ⟨(wanted_plain rfl), _, run_assign _ rfl w, (c.new 33 63 (by kernel_rfl) (by kernel_rfl))⟩
    intro s w6 hE hold hnew
    have f0 : s 0 = .slice A0 nb cap0 := hold 0 (by kernel_rfl)
    have f3 : s 3 = .slice AF (nb + 80) capf := hold 3 (by kernel_rfl)
    have f4 : s 4 = .slice AF nb capf := hold 4 (by kernel_rfl)
    have f5 : s 5 = .slice AP np capp := hold 5 (by kernel_rfl)
    have f6 : s 6 = .bool r := hold 6 (by kernel_rfl)
    have f7 : s 7 = .slice AQ np capq := hold 7 (by kernel_rfl)
    have f8 : s 8 = .bool r := hold 8 (by kernel_rfl)
    have f2 : s 2 = .bool true := hnew 34 2 (by kernel_rfl)
    have f30 : s 30 = .slice AF nb capf := hnew 0 30 (by kernel_rfl)
    have f31 : s 31 = .int .u32 (crc lb : Int) := hnew 1 31 (by kernel_rfl)
    have f32 : s 32 = .slice A0 nb cap0 := hnew 2 32 (by kernel_rfl)
    have f33 : s 33 = .int .u32 (crc lb : Int) := hnew 3 33 (by kernel_rfl)
    have f34 : s 34 = .bool true := hnew 4 34 (by kernel_rfl)
    have f35 : s 35 = .bool true := hnew 5 35 (by kernel_rfl)
    have f36 : s 36 = .slice AF nb capf := hnew 6 36 (by kernel_rfl)
    obtain ⟨A37, n37, cap37, f37, hB37⟩ := (hnew 7 37 (by kernel_rfl) : Holds (seal_ lb) (s 37) w6)
    have f38 : s 38 = .string ⟨(seal_ lb).toArray⟩ := hnew 8 38 (by kernel_rfl)
    have f39 : s 39 = .slice A0 nb cap0 := hnew 9 39 (by kernel_rfl)
    obtain ⟨A40, n40, cap40, f40, hB40⟩ := (hnew 10 40 (by kernel_rfl) : Holds (seal_ lb) (s 40) w6)
    have f41 : s 41 = .string ⟨(seal_ lb).toArray⟩ := hnew 11 41 (by kernel_rfl)
    have f42 : s 42 = .bool true := hnew 12 42 (by kernel_rfl)
    have f43 : s 43 = .bool true := hnew 13 43 (by kernel_rfl)
    have f44 : s 44 = .bool true := hnew 14 44 (by kernel_rfl)
    have f45 : s 45 = .slice AP np capp := hnew 15 45 (by kernel_rfl)
    have f46 : s 46 = .string ⟨(opened lb).toArray⟩ := hnew 16 46 (by kernel_rfl)
    have f47 : s 47 = .slice AQ np capq := hnew 17 47 (by kernel_rfl)
    have f48 : s 48 = .string ⟨(opened lb).toArray⟩ := hnew 18 48 (by kernel_rfl)
    have f49 : s 49 = .bool true := hnew 19 49 (by kernel_rfl)
    have f50 : s 50 = .bool true := hnew 20 50 (by kernel_rfl)
    have f51 : s 51 = .bool true := hnew 21 51 (by kernel_rfl)
    have f52 : s 52 = .bool r := hnew 22 52 (by kernel_rfl)
    have f53 : s 53 = .bool r := hnew 23 53 (by kernel_rfl)
    have f54 : s 54 = .bool true := hnew 24 54 (by kernel_rfl)
    have f55 : s 55 = .bool true := hnew 25 55 (by kernel_rfl)
    have f56 : s 56 = .bool true := hnew 26 56 (by kernel_rfl)
    have f57 : s 57 = .slice AF (nb + 80) capf := hnew 27 57 (by kernel_rfl)
    have f58 : s 58 = .slice A0 nb cap0 := hnew 28 58 (by kernel_rfl)
    have f59 : s 59 = .bool true := hnew 29 59 (by kernel_rfl)
    have f60 : s 60 = .bool true := hnew 30 60 (by kernel_rfl)
    have f61 : s 61 = .bool true := hnew 31 61 (by kernel_rfl)
    have f62 : s 62 = .bool true := hnew 32 62 (by kernel_rfl)
    have f63 : s 63 = .bool true := hnew 33 63 (by kernel_rfl)
    change Exit.then _ _ .normal ⟨#[s 0, s 1, s 2, s 3, s 4, s 5, s 6, s 7, s 8, s 9, s 10, s 11, s 12, s 13, s 14, s 15, s 16, s 17, s 18, s 19, s 20, s 21, s 22, s 23, s 24, s 25, s 26, s 27, s 28, s 29, s 30, s 31, s 32, s 33, s 34, s 35, s 36, s 37, s 38, s 39, s 40, s 41, s 42, s 43, s 44, s 45, s 46, s 47, s 48, s 49, s 50, s 51, s 52, s 53, s 54, s 55, s 56, s 57, s 58, s 59, s 60, s 61, s 62, s 63], _⟩ _
    simp only [f0, f3, f4, f5, f6, f7, f8, f2, f30, f31, f32, f33, f34, f35, f36, f37, f38, f39, f40, f41, f42, f43, f44, f45, f46, f47, f48, f49, f50, f51, f52, f53, f54, f55, f56, f57, f58, f59, f60, f61, f62, f63]
    clear hnew hold
    go_wp2
    go_ret
    exact ⟨rfl, (hE1.trans hE2).trans (hE3.trans hE)⟩

set_option maxRecDepth 100000 in
theorem lifted (os : Os) (started : os.Started) (H : Type) (enc : TypeId × Value → H) :
    ReturnsInHanded {} Try.checked os 4 .any (Rows.sumTellsSpec.pre6 enc Try.prog Try.f4 Rows.sumTellsRow.domain false) (Rows.sumTellsSpec.post enc Try.prog Try.f4 false true false false) := by
  refine returnsInHanded_of_change (C := Try.checked) own started (by kernel_rfl) Try.func4
    (ChangeSpec.witness6 (enc := enc) (C := Try.checked) false ⟨#[], #[.slice none 0 0], []⟩ 8 (by kernel_rfl) (by kernel_rfl) (by kernel_rfl) (by kernel_rfl)) ?_
  intro W base args ds gs before hval0 hW hcnd _
  have hval : ∀ (j : Nat) t v, Try.f4.params[j]? = some t → args[j]? = some v → Value.okWide Try.prog W .any base t v := hval0
  have hW' := hW
  obtain ⟨p, q, hA0, hV, rfl, hfz, hnd⟩ := hW
  have hA : DataW.TrodAll enc Try.prog W 0 (fun _ => true) true Try.f4.params.toList args.toList ds p := hA0
  rw [Try.params4] at hA hval
  obtain ⟨v0, vs0, d0, ds0, p0, q0, hargs, rfl, rfl, h0, r0⟩ := trodAll_cons hA
  obtain ⟨rfl, rfl, rfl⟩ := trodAll_nil r0
  obtain rfl : args = #[v0] := by cases args; simp_all
  obtain ⟨rfl, rfl⟩ := trodVars_none hV
  obtain ⟨A0, n0, cap0, rfl⟩ := okWide_slice Try.underlying22 (hval 0 22 v0 rfl rfl)
  have k0 := h0
  have lt0 : ∀ x ∈ p0, x.block < W.heap.size := by obtain ⟨m, hm⟩ := k0; exact DataW.trod_lt m _ _ _ hm
  obtain ⟨l0, b0⟩ : ∃ l, Bs W A0 n0 cap0 l := by
    obtain ⟨fuel, hf⟩ := h0
    rcases open_ints Try.underlying22 Try.underlying5 (by kernel_rfl) hf with ⟨hcs, _⟩ | ⟨x, l, c, zs, hcs, _, hl, hm, hz, _, hcell, hwz⟩
    · simp [Value.cells] at hcs
      obtain ⟨rfl, rfl, rfl⟩ := hcs
      exact ⟨[], Bs.nil_ W⟩
    · simp [Value.cells] at hcs
      obtain ⟨rfl, rfl, rfl⟩ := hcs
      exact Bs.came hl hm (by simpa using hz) hcell hwz
  clear hA0 hval0
  refine (walk A0 n0 cap0 l0 W b0).mono fun e W' ⟨he, bel⟩ => ?_
  subst he
  exact ⟨_, rfl, _, _, _, [], _, [], hW', trodAll_mk1 (shut_bool Try.underlying4 _), (trodAll_cons_mk (Below.trod laidOut (by kernel_rfl) (of_decide_eq_true (by kernel_rfl)) k0 bel lt0) trodAll_mk0), rfl, bel.frame _, fun h => by cases h⟩

theorem over : Rows.sumTellsRow.holds Try.pinned (OpenSpec.ofChange Rows.sumTellsSpec) :=
  OpenClaim.holds_of_wide 4 Try.f4 rfl rfl rfl rfl rfl rfl rfl ⟨rfl, rfl, rfl, rfl, rfl⟩ rfl rfl rfl rfl rfl (by kernel_rfl) Try.func4 (by kernel_rfl)
    (of_decide_eq_true (by kernel_rfl)) (by unfold Func.isWrapper; first | (rw [if_pos (by decide +kernel)]; kernel_rfl) | (rw [if_neg (by decide +kernel)]; exact ⟨rfl, rfl⟩))
    (fun os started H enc _ => lifted os started H enc)

/-- The statement. -/
theorem proved : Rows.SumTellsSaid := over
#print axioms proved
end Go.Proofs.Ytmhgpbohkdndpaa.sumTells
