/-
  SumSeals: whatever the input, the law gives true and leaves its arguments as they were. No condition.
-/
import Derived.Test.YtmhgpbohkdndpaaKnown2
import Derived.Test.YtmhgpbohkdndpaaOps
import Derived.Deep.DeepCutAuto
import Derived.ProofKit
import Derived.OpenShut
import Derived.ShutString
import Derived.ChangeOld
namespace Go.Proofs.Ytmhgpbohkdndpaa.sumSeals
open Go.ChangeShapes Go.WideShapes Go.ChangeAt Go.RowKit
set_option linter.unusedVariables false

theorem own : ownKnob Try.prog.godebug = none := by kernel_rfl
theorem laidOut : laidOutB Try.prog = true := by kernel_rfl

set_option maxRecDepth 100000 in
set_option maxHeartbeats 1000000 in
theorem walk (A0 : Option Addr) (n0 cap0 : Nat) (l0 : List UInt8) (A1 : Option Addr) (n1 cap1 : Nat) (l1 : List UInt8) (w : World) (h0 : Bs w A0 n0 cap0 l0) (h1 : Bs w A1 n1 cap1 l1) :
    Calls Try.prog 6 #[.slice A0 n0 cap0, .slice A1 n1 cap1] w fun e w' => e = .returned (.bool true) ∧ Ev w w' := by
  have hmx := h0.max
  have hle := h0.le
  have hmx1 := h1.max
  have hle1 := h1.le
  go_enter Try.func6, Try.ntmps6
  go_upto_if 11 with fail
  go_cut [0] (fun v wx => ∃ (nb : Nat) (lb : List UInt8), v = .slice A0 nb cap0 ∧ nb ≤ 2000 ∧ Bs wx A0 nb cap0 lb ∧ w = wx)
  case first =>
    by_cases hb : 2000 < n0
    · have hto := h0.to (show 2000 ≤ n0 by omega)
      go_wp2_with fail
      go_meet
      exact ⟨2000, _, rfl, by omega, hto, rfl⟩
    · go_wp2_with fail
      go_meet
      exact ⟨n0, l0, rfl, by omega, h0, rfl⟩
  case rest =>
    obtain ⟨nb, lb, rfl, hnb, hB, rfl⟩ := hcut
    clear hmx hle h0
    go_upto_if 16 with fail
    go_cut [1] (fun v wx => ∃ (nc : Nat) (lc : List UInt8), v = .slice A1 nc cap1 ∧ nc ≤ 2000 ∧ Bs wx A1 nc cap1 lc ∧ w = wx)
    case first =>
      by_cases hb : 2000 < n1
      · have hto := h1.to (show 2000 ≤ n1 by omega)
        go_wp2_with fail
        go_meet
        exact ⟨2000, _, rfl, by omega, hto, rfl⟩
      · go_wp2_with fail
        go_meet
        exact ⟨n1, l1, rfl, by omega, h1, rfl⟩
    case rest =>
    obtain ⟨nc, lc, rfl, hnc, hC, rfl⟩ := hcut
    clear hmx1 hle1 h1
    have hmx := hB.max
    have hle := hB.le
    have hmx1 := hC.max
    have hle1 := hC.le
    have HB := Lib.hid hB.len
    have HC := Lib.hid hC.len
    go_wp2_with fail
    refine (seal_any A0 nb cap0 lb w hB (by omega)).mono ?_
    rintro e w1 ⟨v, rfl, hF⟩
    have hE1 := hF.ev
    obtain ⟨AS, caps, rfl, hown1, _⟩ := hF
    obtain ⟨n2, hn2⟩ : ∃ n2, (seal_ lb).length = n2 := ⟨_, rfl⟩
    rw [hn2] at hown1 ⊢
    have hn2' : n2 = nb + 4 := by rw [← hn2, seal_length, hB.len]
    have HN2 := Lib.hid hn2
    clear hn2
    obtain ⟨g, capq, hAS, hgB, hg1⟩ := hown1.form (by omega)
    injection hAS with hAS _ hcap
    subst hAS; subst hcap
    have hb1 := hB.below hE1
    have hc1 := hC.below hE1
    have hS := Bs.own hown1
    have hS4 := hS.from_ (show 4 ≤ n2 by omega)
    rw [show (seal_ lb).drop 4 = lb from seal_drop lb] at hS4
    have hnn : (n2 : Int) = (nb : Int) + 4 := by omega
    have hmix : Try.prog.follows .mixedOrders = true := by kernel_rfl
    clear hB hC
    have HN2' := Lib.hid hn2'
    have q1 : 4 ≤ n2 := by omega
    clear hn2'
    have HNN := Lib.hid hnn
    have HW4 := Lib.hid (show IntKind.i64.wrap ((nb : Int) + 4) = (nb : Int) + 4 from IntWalk.i64_in _ (by omega))
    clear hnn
    go_wp2_with fail
    have hnn := HNN.out
    have hw4 := HW4.out
    refine wp_region_slots hmix [fun v _ => v = .slice (some ⟨g, 0, none⟩) n2 caps, fun v _ => v = .int .i64 ((n2 : Nat) : Int), fun v _ => v = .slice A0 nb cap0, fun v _ => v = .int .i64 ((nb : Nat) : Int), fun v _ => v = .int .i64 ((nb + 4 : Nat) : Int), fun v _ => v = .bool false, fun v _ => v = .bool false, fun v _ => v = .slice (some ⟨g, 0, none⟩) n2 caps, fun v _ => v = .slice (from_ (some ⟨g, 0, none⟩) caps 4) (n2 - 4) (caps - 4), fun v _ => v = .string ⟨(lb).toArray⟩, fun v _ => v = .slice A0 nb cap0, fun v _ => v = .string ⟨(lb).toArray⟩, fun v _ => v = .bool false, fun v _ => v = .bool false]
      105 rfl (by kernel_rfl) ⟨mono_eq _, mono_eq _, mono_eq _, mono_eq _, mono_eq _, mono_eq _, mono_eq _, mono_eq _, mono_eq _, mono_eq _, mono_eq _, mono_eq _, mono_eq _, mono_eq _, trivial⟩ ?_ ?_
    · refine ops_cons 0 ?_ (ops_cons 1 ?_ (ops_cons 2 ?_ (ops_cons 3 ?_ (ops_cons 4 ?_ (ops_cons 5 ?_ (ops_cons 6 ?_ (ops_cons 7 ?_ (ops_cons 8 ?_ (ops_cons 9 ?_ (ops_cons 10 ?_ (ops_cons 11 ?_ (ops_cons 12 ?_ (ops_cons 13 ?_ (ops_nil 14))))))))))))))
      · refine op_value fun a w c => ⟨(wanted_plain rfl), _, run_move _ rfl w, (c.was 5 (by kernel_rfl) rfl)⟩
      · refine op_value fun a w c => ⟨(wanted_plain rfl), _, run_len_bytes rfl ((c.new 0 21 (by kernel_rfl) (by kernel_rfl)) : a.eval (.tmp 21) = .slice (some ⟨g, 0, none⟩) n2 caps) w, rfl⟩
      · refine op_value fun a w c => ⟨(wanted_plain rfl), _, run_move _ rfl w, (c.was 0 (by kernel_rfl) rfl)⟩
      · refine op_value fun a w c => ⟨(wanted_plain rfl), _, run_len_bytes rfl ((c.new 2 23 (by kernel_rfl) (by kernel_rfl)) : a.eval (.tmp 23) = .slice A0 nb cap0) w, rfl⟩
      · refine op_value fun a w c => ⟨(wanted_plain rfl), .int .i64 ((nb + 4 : Nat) : Int), ?_, rfl⟩
        have e24 : a.eval (.tmp 24) = .int .i64 ((nb : Nat) : Int) := (c.new 3 24 (by kernel_rfl) (by kernel_rfl))
        have kc0 : a.eval (.const (.int .i64 4)) = .int .i64 4 := rfl
        generalize a.eval = ρ at e24 kc0 ⊢
        simp [execOp, e24, kc0, go_sem, hw4]
      · refine op_value fun a w c => ⟨(wanted_plain rfl), .bool false, ?_, rfl⟩
        have e22 : a.eval (.tmp 22) = .int .i64 ((n2 : Nat) : Int) := (c.new 1 22 (by kernel_rfl) (by kernel_rfl))
        have e25 : a.eval (.tmp 25) = .int .i64 ((nb + 4 : Nat) : Int) := (c.new 4 25 (by kernel_rfl) (by kernel_rfl))
        generalize a.eval = ρ at e22 e25 ⊢
        simp [execOp, e22, e25, go_sem, hnn]
      · refine op_value fun a w c => ⟨(wanted_plain rfl), _, run_move _ rfl w, (c.new 5 26 (by kernel_rfl) (by kernel_rfl))⟩
      · refine op_value fun a w c => ⟨(wanted_yes rfl (by kernel_rfl) (c.new 6 27 (by kernel_rfl) (by kernel_rfl))), _, run_move _ rfl w, (c.was 5 (by kernel_rfl) rfl)⟩
      · refine op_value fun a w c => ⟨(wanted_yes rfl (by kernel_rfl) (c.new 6 27 (by kernel_rfl) (by kernel_rfl))), _, run_from_bytes 4 rfl ((c.new 7 28 (by kernel_rfl) (by kernel_rfl)) : a.eval (.tmp 28) = .slice (some ⟨g, 0, none⟩) n2 caps) rfl (by omega) (by omega) w, rfl⟩
      · refine op_value fun a w c => ⟨(wanted_yes rfl (by kernel_rfl) (c.new 6 27 (by kernel_rfl) (by kernel_rfl))), _, run_str rfl Try.underlying22 Try.underlying5 Try.underlying9 ((c.new 8 29 (by kernel_rfl) (by kernel_rfl)) : a.eval (.tmp 29) = .slice (from_ (some ⟨g, 0, none⟩) caps 4) (n2 - 4) (caps - 4)) ⟨_, _, _, rfl, hS4.below c.ev⟩, rfl⟩
      · refine op_value fun a w c => ⟨(wanted_yes rfl (by kernel_rfl) (c.new 6 27 (by kernel_rfl) (by kernel_rfl))), _, run_move _ rfl w, (c.was 0 (by kernel_rfl) rfl)⟩
      · refine op_value fun a w c => ⟨(wanted_yes rfl (by kernel_rfl) (c.new 6 27 (by kernel_rfl) (by kernel_rfl))), _, run_str rfl Try.underlying22 Try.underlying5 Try.underlying9 ((c.new 10 31 (by kernel_rfl) (by kernel_rfl)) : a.eval (.tmp 31) = .slice A0 nb cap0) ⟨_, _, _, rfl, hb1.below c.ev⟩, rfl⟩
      · refine op_value fun a w c => ⟨(wanted_yes rfl (by kernel_rfl) (c.new 6 27 (by kernel_rfl) (by kernel_rfl))), .bool false, ?_, rfl⟩
        have e30 : a.eval (.tmp 30) = .string ⟨(lb).toArray⟩ := (c.new 9 30 (by kernel_rfl) (by kernel_rfl))
        have e32 : a.eval (.tmp 32) = .string ⟨(lb).toArray⟩ := (c.new 11 32 (by kernel_rfl) (by kernel_rfl))
        generalize a.eval = ρ at e30 e32 ⊢
        simp [execOp, e30, e32, go_sem]
      · refine op_value fun a w c => ⟨(wanted_plain rfl), _, run_pick_false rfl (c.new 6 27 (by kernel_rfl) (by kernel_rfl)) w, (c.new 12 33 (by kernel_rfl) (by kernel_rfl))⟩
    intro s w2 hE hold hnew
    have f0 : s 0 = .slice A0 nb cap0 := hold 0 (by kernel_rfl)
    have f1 : s 1 = .slice A1 nc cap1 := hold 1 (by kernel_rfl)
    have f4 : s 4 = .bool false := hold 4 (by kernel_rfl)
    have f5 : s 5 = .slice (some ⟨g, 0, none⟩) n2 caps := hold 5 (by kernel_rfl)
    have f21 : s 21 = .slice (some ⟨g, 0, none⟩) n2 caps := hnew 0 21 (by kernel_rfl)
    have f22 : s 22 = .int .i64 ((n2 : Nat) : Int) := hnew 1 22 (by kernel_rfl)
    have f23 : s 23 = .slice A0 nb cap0 := hnew 2 23 (by kernel_rfl)
    have f24 : s 24 = .int .i64 ((nb : Nat) : Int) := hnew 3 24 (by kernel_rfl)
    have f25 : s 25 = .int .i64 ((nb + 4 : Nat) : Int) := hnew 4 25 (by kernel_rfl)
    have f26 : s 26 = .bool false := hnew 5 26 (by kernel_rfl)
    have f27 : s 27 = .bool false := hnew 6 27 (by kernel_rfl)
    have f28 : s 28 = .slice (some ⟨g, 0, none⟩) n2 caps := hnew 7 28 (by kernel_rfl)
    have f29 : s 29 = .slice (from_ (some ⟨g, 0, none⟩) caps 4) (n2 - 4) (caps - 4) := hnew 8 29 (by kernel_rfl)
    have f30 : s 30 = .string ⟨(lb).toArray⟩ := hnew 9 30 (by kernel_rfl)
    have f31 : s 31 = .slice A0 nb cap0 := hnew 10 31 (by kernel_rfl)
    have f32 : s 32 = .string ⟨(lb).toArray⟩ := hnew 11 32 (by kernel_rfl)
    have f33 : s 33 = .bool false := hnew 12 33 (by kernel_rfl)
    have f34 : s 34 = .bool false := hnew 13 34 (by kernel_rfl)
    change Exit.then _ _ .normal ⟨#[s 0, s 1, s 2, s 3, s 4, s 5, s 6, s 7, s 8, s 9, s 10, s 11, s 12, s 13, s 14, s 15, s 16, s 17, s 18, s 19, s 20, s 21, s 22, s 23, s 24, s 25, s 26, s 27, s 28, s 29, s 30, s 31, s 32, s 33, s 34, s 35, s 36, s 37, s 38, s 39, s 40, s 41, s 42, s 43, s 44, s 45, s 46, s 47, s 48, s 49, s 50, s 51, s 52, s 53, s 54, s 55, s 56, s 57, s 58, s 59, s 60, s 61, s 62, s 63, s 64, s 65, s 66, s 67, s 68, s 69, s 70, s 71, s 72, s 73, s 74, s 75, s 76, s 77, s 78, s 79, s 80, s 81, s 82, s 83, s 84, s 85, s 86, s 87, s 88, s 89, s 90, s 91, s 92, s 93, s 94, s 95, s 96, s 97, s 98, s 99, s 100, s 101, s 102, s 103, s 104], _⟩ _
    simp only [f0, f1, f4, f5, f21, f22, f23, f24, f25, f26, f27, f28, f29, f30, f31, f32, f33, f34]
    clear hnn hw4 hold hnew
    have hg2 := hE.size
    have hg2 : g < w2.heap.size := by omega
    obtain ⟨c0, hc0⟩ : ∃ c0, crc lb = c0 := ⟨_, rfl⟩
    have hclt := crc_lt lb
    obtain ⟨sa0, sa1, sa2, sa3⟩ := seal_at lb
    rw [hc0] at hclt sa0 sa1 sa2 sa3
    have HC0 := Lib.hid hc0
    clear hc0
    have hown2 := own_ev hown1 hE
    have hc0 := hown2.cellAt 0 (by omega)
    have hc1 := hown2.cellAt 1 (by omega)
    have hc2 := hown2.cellAt 2 (by omega)
    have hc3 := hown2.cellAt 3 (by omega)
    rw [bvs_at (by rw [HN2.out]; omega), sa0] at hc0
    rw [bvs_at (by rw [HN2.out]; omega), sa1] at hc1
    rw [bvs_at (by rw [HN2.out]; omega), sa2] at hc2
    rw [bvs_at (by rw [HN2.out]; omega), sa3] at hc3
    obtain ⟨or1, or2, or3⟩ := le_or' c0 hclt
    clear sa0 sa1 sa2 sa3
    have sh1 : IntKind.u32.wrap ((c0 : Int) / 256 % 256 * 256) = (c0 : Int) / 256 % 256 * 256 := IntWalk.u32_in _ (by omega)
    have sh2 : IntKind.u32.wrap ((c0 : Int) / 65536 % 256 * 65536) = (c0 : Int) / 65536 % 256 * 65536 := IntWalk.u32_in _ (by omega)
    have sh3 : IntKind.u32.wrap ((c0 : Int) / 16777216 * 16777216) = (c0 : Int) / 16777216 * 16777216 := IntWalk.u32_in _ (by omega)
    have p0 : ¬ n2 = 0 := by omega
    have p1 : ¬ (n2 : Int) ≤ 1 := by omega
    have p2 : ¬ (n2 : Int) ≤ 2 := by omega
    have p3 : ¬ (n2 : Int) ≤ 3 := by omega
    have wr0 : IntKind.u32.wrap ((c0 : Int) % 256) = (c0 : Int) % 256 := IntWalk.u32_in _ (by omega)
    have wr1 : IntKind.u32.wrap ((c0 : Int) / 256 % 256) = (c0 : Int) / 256 % 256 := IntWalk.u32_in _ (by omega)
    have wr2 : IntKind.u32.wrap ((c0 : Int) / 65536 % 256) = (c0 : Int) / 65536 % 256 := IntWalk.u32_in _ (by omega)
    have wr3 : IntKind.u32.wrap ((c0 : Int) / 16777216) = (c0 : Int) / 16777216 := IntWalk.u32_in _ (by omega)
    go_wp2_with fail
    refine wp_region_slots hmix [fun v _ => v = .slice (some ⟨g, 0, none⟩) n2 caps, fun v _ => v = .pointer (some ⟨g, 0, none⟩), fun v _ => v = .int .u8 ((c0 % 256 : Nat) : Int), fun v _ => v = .int .u32 ((c0 % 256 : Nat) : Int), fun v _ => v = .slice (some ⟨g, 0, none⟩) n2 caps, fun v _ => v = .pointer (some ⟨g, 1, none⟩), fun v _ => v = .int .u8 ((c0 / 256 % 256 : Nat) : Int), fun v _ => v = .int .u32 ((c0 / 256 % 256 : Nat) : Int), fun v _ => v = .int .u32 ((c0 / 256 % 256 * 256 : Nat) : Int), fun v _ => v = .int .u32 ((c0 % 65536 : Nat) : Int), fun v _ => v = .slice (some ⟨g, 0, none⟩) n2 caps, fun v _ => v = .pointer (some ⟨g, 2, none⟩), fun v _ => v = .int .u8 ((c0 / 65536 % 256 : Nat) : Int), fun v _ => v = .int .u32 ((c0 / 65536 % 256 : Nat) : Int), fun v _ => v = .int .u32 ((c0 / 65536 % 256 * 65536 : Nat) : Int), fun v _ => v = .int .u32 ((c0 % 16777216 : Nat) : Int), fun v _ => v = .slice (some ⟨g, 0, none⟩) n2 caps, fun v _ => v = .pointer (some ⟨g, 3, none⟩), fun v _ => v = .int .u8 ((c0 / 16777216 : Nat) : Int), fun v _ => v = .int .u32 ((c0 / 16777216 : Nat) : Int), fun v _ => v = .int .u32 ((c0 / 16777216 * 16777216 : Nat) : Int), fun v _ => v = .int .u32 (c0 : Int), fun v _ => v = .int .u32 (c0 : Int)]
      105 rfl (by kernel_rfl) ⟨mono_eq _, mono_eq _, mono_eq _, mono_eq _, mono_eq _, mono_eq _, mono_eq _, mono_eq _, mono_eq _, mono_eq _, mono_eq _, mono_eq _, mono_eq _, mono_eq _, mono_eq _, mono_eq _, mono_eq _, mono_eq _, mono_eq _, mono_eq _, mono_eq _, mono_eq _, mono_eq _, trivial⟩ ?_ ?_
    · refine ops_cons 0 ?_ (ops_cons 1 ?_ (ops_cons 2 ?_ (ops_cons 3 ?_ (ops_cons 4 ?_ (ops_cons 5 ?_ (ops_cons 6 ?_ (ops_cons 7 ?_ (ops_cons 8 ?_ (ops_cons 9 ?_ (ops_cons 10 ?_ (ops_cons 11 ?_ (ops_cons 12 ?_ (ops_cons 13 ?_ (ops_cons 14 ?_ (ops_cons 15 ?_ (ops_cons 16 ?_ (ops_cons 17 ?_ (ops_cons 18 ?_ (ops_cons 19 ?_ (ops_cons 20 ?_ (ops_cons 21 ?_ (ops_cons 22 ?_ (ops_nil 23)))))))))))))))))))))))
      · refine op_value fun a w c => ⟨(wanted_plain rfl), _, run_move _ rfl w, (c.was 5 (by kernel_rfl) rfl)⟩
      · refine op_value fun a w c => ⟨(wanted_plain rfl), .pointer (some ⟨g, 0, none⟩), ?_, rfl⟩
        have e35 : a.eval (.tmp 35) = .slice (some ⟨g, 0, none⟩) n2 caps := (c.new 0 35 (by kernel_rfl) (by kernel_rfl))
        have kc0 : a.eval (.const (.int .i64 0)) = .int .i64 0 := rfl
        generalize a.eval = ρ at e35 kc0 ⊢
        simp [execOp, e35, kc0, go_sem, p0]
      · refine op_value fun a w c => ⟨(wanted_plain rfl), .int .u8 ((c0 % 256 : Nat) : Int), ?_, rfl⟩
        have e36 : a.eval (.tmp 36) = .pointer (some ⟨g, 0, none⟩) := (c.new 1 36 (by kernel_rfl) (by kernel_rfl))
        have hc := (c.ev.cell (p := ⟨g, 0, none⟩) hg2).trans hc0
        generalize a.eval = ρ at e36 ⊢
        simp [execOp, e36, hc, go_sem]
      · refine op_value fun a w c => ⟨(wanted_plain rfl), .int .u32 ((c0 % 256 : Nat) : Int), ?_, rfl⟩
        have e37 : a.eval (.tmp 37) = .int .u8 ((c0 % 256 : Nat) : Int) := (c.new 2 37 (by kernel_rfl) (by kernel_rfl))
        generalize a.eval = ρ at e37 ⊢
        simp [execOp, e37, go_sem, wr0]
      · refine op_value fun a w c => ⟨(wanted_plain rfl), _, run_move _ rfl w, (c.was 5 (by kernel_rfl) rfl)⟩
      · refine op_value fun a w c => ⟨(wanted_plain rfl), .pointer (some ⟨g, 1, none⟩), ?_, rfl⟩
        have e39 : a.eval (.tmp 39) = .slice (some ⟨g, 0, none⟩) n2 caps := (c.new 4 39 (by kernel_rfl) (by kernel_rfl))
        have kc0 : a.eval (.const (.int .i64 1)) = .int .i64 1 := rfl
        generalize a.eval = ρ at e39 kc0 ⊢
        simp [execOp, e39, kc0, go_sem, p1]
      · refine op_value fun a w c => ⟨(wanted_plain rfl), .int .u8 ((c0 / 256 % 256 : Nat) : Int), ?_, rfl⟩
        have e40 : a.eval (.tmp 40) = .pointer (some ⟨g, 1, none⟩) := (c.new 5 40 (by kernel_rfl) (by kernel_rfl))
        have hc := (c.ev.cell (p := ⟨g, 1, none⟩) hg2).trans hc1
        generalize a.eval = ρ at e40 ⊢
        simp [execOp, e40, hc, go_sem]
      · refine op_value fun a w c => ⟨(wanted_plain rfl), .int .u32 ((c0 / 256 % 256 : Nat) : Int), ?_, rfl⟩
        have e41 : a.eval (.tmp 41) = .int .u8 ((c0 / 256 % 256 : Nat) : Int) := (c.new 6 41 (by kernel_rfl) (by kernel_rfl))
        generalize a.eval = ρ at e41 ⊢
        simp [execOp, e41, go_sem, wr1]
      · refine op_value fun a w c => ⟨(wanted_plain rfl), .int .u32 ((c0 / 256 % 256 * 256 : Nat) : Int), ?_, rfl⟩
        have e42 : a.eval (.tmp 42) = .int .u32 ((c0 / 256 % 256 : Nat) : Int) := (c.new 7 42 (by kernel_rfl) (by kernel_rfl))
        have kc0 : a.eval (.const (.int .u64 8)) = .int .u64 8 := rfl
        generalize a.eval = ρ at e42 kc0 ⊢
        simp [execOp, e42, kc0, go_sem, sh1]
      · refine op_value fun a w c => ⟨(wanted_plain rfl), .int .u32 ((c0 % 65536 : Nat) : Int), ?_, rfl⟩
        have e38 : a.eval (.tmp 38) = .int .u32 ((c0 % 256 : Nat) : Int) := (c.new 3 38 (by kernel_rfl) (by kernel_rfl))
        have e43 : a.eval (.tmp 43) = .int .u32 ((c0 / 256 % 256 * 256 : Nat) : Int) := (c.new 8 43 (by kernel_rfl) (by kernel_rfl))
        generalize a.eval = ρ at e38 e43 ⊢
        simp [execOp, e38, e43, go_sem, or1]
      · refine op_value fun a w c => ⟨(wanted_plain rfl), _, run_move _ rfl w, (c.was 5 (by kernel_rfl) rfl)⟩
      · refine op_value fun a w c => ⟨(wanted_plain rfl), .pointer (some ⟨g, 2, none⟩), ?_, rfl⟩
        have e45 : a.eval (.tmp 45) = .slice (some ⟨g, 0, none⟩) n2 caps := (c.new 10 45 (by kernel_rfl) (by kernel_rfl))
        have kc0 : a.eval (.const (.int .i64 2)) = .int .i64 2 := rfl
        generalize a.eval = ρ at e45 kc0 ⊢
        simp [execOp, e45, kc0, go_sem, p2]
      · refine op_value fun a w c => ⟨(wanted_plain rfl), .int .u8 ((c0 / 65536 % 256 : Nat) : Int), ?_, rfl⟩
        have e46 : a.eval (.tmp 46) = .pointer (some ⟨g, 2, none⟩) := (c.new 11 46 (by kernel_rfl) (by kernel_rfl))
        have hc := (c.ev.cell (p := ⟨g, 2, none⟩) hg2).trans hc2
        generalize a.eval = ρ at e46 ⊢
        simp [execOp, e46, hc, go_sem]
      · refine op_value fun a w c => ⟨(wanted_plain rfl), .int .u32 ((c0 / 65536 % 256 : Nat) : Int), ?_, rfl⟩
        have e47 : a.eval (.tmp 47) = .int .u8 ((c0 / 65536 % 256 : Nat) : Int) := (c.new 12 47 (by kernel_rfl) (by kernel_rfl))
        generalize a.eval = ρ at e47 ⊢
        simp [execOp, e47, go_sem, wr2]
      · refine op_value fun a w c => ⟨(wanted_plain rfl), .int .u32 ((c0 / 65536 % 256 * 65536 : Nat) : Int), ?_, rfl⟩
        have e48 : a.eval (.tmp 48) = .int .u32 ((c0 / 65536 % 256 : Nat) : Int) := (c.new 13 48 (by kernel_rfl) (by kernel_rfl))
        have kc0 : a.eval (.const (.int .u64 16)) = .int .u64 16 := rfl
        generalize a.eval = ρ at e48 kc0 ⊢
        simp [execOp, e48, kc0, go_sem, sh2]
      · refine op_value fun a w c => ⟨(wanted_plain rfl), .int .u32 ((c0 % 16777216 : Nat) : Int), ?_, rfl⟩
        have e44 : a.eval (.tmp 44) = .int .u32 ((c0 % 65536 : Nat) : Int) := (c.new 9 44 (by kernel_rfl) (by kernel_rfl))
        have e49 : a.eval (.tmp 49) = .int .u32 ((c0 / 65536 % 256 * 65536 : Nat) : Int) := (c.new 14 49 (by kernel_rfl) (by kernel_rfl))
        generalize a.eval = ρ at e44 e49 ⊢
        simp [execOp, e44, e49, go_sem, or2]
      · refine op_value fun a w c => ⟨(wanted_plain rfl), _, run_move _ rfl w, (c.was 5 (by kernel_rfl) rfl)⟩
      · refine op_value fun a w c => ⟨(wanted_plain rfl), .pointer (some ⟨g, 3, none⟩), ?_, rfl⟩
        have e51 : a.eval (.tmp 51) = .slice (some ⟨g, 0, none⟩) n2 caps := (c.new 16 51 (by kernel_rfl) (by kernel_rfl))
        have kc0 : a.eval (.const (.int .i64 3)) = .int .i64 3 := rfl
        generalize a.eval = ρ at e51 kc0 ⊢
        simp [execOp, e51, kc0, go_sem, p3]
      · refine op_value fun a w c => ⟨(wanted_plain rfl), .int .u8 ((c0 / 16777216 : Nat) : Int), ?_, rfl⟩
        have e52 : a.eval (.tmp 52) = .pointer (some ⟨g, 3, none⟩) := (c.new 17 52 (by kernel_rfl) (by kernel_rfl))
        have hc := (c.ev.cell (p := ⟨g, 3, none⟩) hg2).trans hc3
        generalize a.eval = ρ at e52 ⊢
        simp [execOp, e52, hc, go_sem]
      · refine op_value fun a w c => ⟨(wanted_plain rfl), .int .u32 ((c0 / 16777216 : Nat) : Int), ?_, rfl⟩
        have e53 : a.eval (.tmp 53) = .int .u8 ((c0 / 16777216 : Nat) : Int) := (c.new 18 53 (by kernel_rfl) (by kernel_rfl))
        generalize a.eval = ρ at e53 ⊢
        simp [execOp, e53, go_sem, wr3]
      · refine op_value fun a w c => ⟨(wanted_plain rfl), .int .u32 ((c0 / 16777216 * 16777216 : Nat) : Int), ?_, rfl⟩
        have e54 : a.eval (.tmp 54) = .int .u32 ((c0 / 16777216 : Nat) : Int) := (c.new 19 54 (by kernel_rfl) (by kernel_rfl))
        have kc0 : a.eval (.const (.int .u64 24)) = .int .u64 24 := rfl
        generalize a.eval = ρ at e54 kc0 ⊢
        simp [execOp, e54, kc0, go_sem, sh3]
      · refine op_value fun a w c => ⟨(wanted_plain rfl), .int .u32 (c0 : Int), ?_, rfl⟩
        have e50 : a.eval (.tmp 50) = .int .u32 ((c0 % 16777216 : Nat) : Int) := (c.new 15 50 (by kernel_rfl) (by kernel_rfl))
        have e55 : a.eval (.tmp 55) = .int .u32 ((c0 / 16777216 * 16777216 : Nat) : Int) := (c.new 20 55 (by kernel_rfl) (by kernel_rfl))
        generalize a.eval = ρ at e50 e55 ⊢
        simp [execOp, e50, e55, go_sem, or3]
      · refine op_value fun a w c => ⟨(wanted_plain rfl), _, run_assign _ rfl w, (c.new 21 56 (by kernel_rfl) (by kernel_rfl))⟩
    intro s w3 hE hold hnew
    have f0 : s 0 = .slice A0 nb cap0 := hold 0 (by kernel_rfl)
    have f1 : s 1 = .slice A1 nc cap1 := hold 1 (by kernel_rfl)
    have f4 : s 4 = .bool false := hold 4 (by kernel_rfl)
    have f5 : s 5 = .slice (some ⟨g, 0, none⟩) n2 caps := hold 5 (by kernel_rfl)
    have f6 : s 6 = .int .u32 (c0 : Int) := hnew 22 6 (by kernel_rfl)
    have f35 : s 35 = .slice (some ⟨g, 0, none⟩) n2 caps := hnew 0 35 (by kernel_rfl)
    have f36 : s 36 = .pointer (some ⟨g, 0, none⟩) := hnew 1 36 (by kernel_rfl)
    have f37 : s 37 = .int .u8 ((c0 % 256 : Nat) : Int) := hnew 2 37 (by kernel_rfl)
    have f38 : s 38 = .int .u32 ((c0 % 256 : Nat) : Int) := hnew 3 38 (by kernel_rfl)
    have f39 : s 39 = .slice (some ⟨g, 0, none⟩) n2 caps := hnew 4 39 (by kernel_rfl)
    have f40 : s 40 = .pointer (some ⟨g, 1, none⟩) := hnew 5 40 (by kernel_rfl)
    have f41 : s 41 = .int .u8 ((c0 / 256 % 256 : Nat) : Int) := hnew 6 41 (by kernel_rfl)
    have f42 : s 42 = .int .u32 ((c0 / 256 % 256 : Nat) : Int) := hnew 7 42 (by kernel_rfl)
    have f43 : s 43 = .int .u32 ((c0 / 256 % 256 * 256 : Nat) : Int) := hnew 8 43 (by kernel_rfl)
    have f44 : s 44 = .int .u32 ((c0 % 65536 : Nat) : Int) := hnew 9 44 (by kernel_rfl)
    have f45 : s 45 = .slice (some ⟨g, 0, none⟩) n2 caps := hnew 10 45 (by kernel_rfl)
    have f46 : s 46 = .pointer (some ⟨g, 2, none⟩) := hnew 11 46 (by kernel_rfl)
    have f47 : s 47 = .int .u8 ((c0 / 65536 % 256 : Nat) : Int) := hnew 12 47 (by kernel_rfl)
    have f48 : s 48 = .int .u32 ((c0 / 65536 % 256 : Nat) : Int) := hnew 13 48 (by kernel_rfl)
    have f49 : s 49 = .int .u32 ((c0 / 65536 % 256 * 65536 : Nat) : Int) := hnew 14 49 (by kernel_rfl)
    have f50 : s 50 = .int .u32 ((c0 % 16777216 : Nat) : Int) := hnew 15 50 (by kernel_rfl)
    have f51 : s 51 = .slice (some ⟨g, 0, none⟩) n2 caps := hnew 16 51 (by kernel_rfl)
    have f52 : s 52 = .pointer (some ⟨g, 3, none⟩) := hnew 17 52 (by kernel_rfl)
    have f53 : s 53 = .int .u8 ((c0 / 16777216 : Nat) : Int) := hnew 18 53 (by kernel_rfl)
    have f54 : s 54 = .int .u32 ((c0 / 16777216 : Nat) : Int) := hnew 19 54 (by kernel_rfl)
    have f55 : s 55 = .int .u32 ((c0 / 16777216 * 16777216 : Nat) : Int) := hnew 20 55 (by kernel_rfl)
    have f56 : s 56 = .int .u32 (c0 : Int) := hnew 21 56 (by kernel_rfl)
    change Exit.then _ _ .normal ⟨#[s 0, s 1, s 2, s 3, s 4, s 5, s 6, s 7, s 8, s 9, s 10, s 11, s 12, s 13, s 14, s 15, s 16, s 17, s 18, s 19, s 20, s 21, s 22, s 23, s 24, s 25, s 26, s 27, s 28, s 29, s 30, s 31, s 32, s 33, s 34, s 35, s 36, s 37, s 38, s 39, s 40, s 41, s 42, s 43, s 44, s 45, s 46, s 47, s 48, s 49, s 50, s 51, s 52, s 53, s 54, s 55, s 56, s 57, s 58, s 59, s 60, s 61, s 62, s 63, s 64, s 65, s 66, s 67, s 68, s 69, s 70, s 71, s 72, s 73, s 74, s 75, s 76, s 77, s 78, s 79, s 80, s 81, s 82, s 83, s 84, s 85, s 86, s 87, s 88, s 89, s 90, s 91, s 92, s 93, s 94, s 95, s 96, s 97, s 98, s 99, s 100, s 101, s 102, s 103, s 104], _⟩ _
    simp only [f0, f1, f4, f5, f6, f35, f36, f37, f38, f39, f40, f41, f42, f43, f44, f45, f46, f47, f48, f49, f50, f51, f52, f53, f54, f55, f56]
    clear hnew hold wr0 wr1 wr2 wr3 sh1 sh2 sh3 or1 or2 or3 p0 p1 p2 p3 hc0 hc1 hc2 hc3 hown2 hown1 hS hS4
    have hb3 := hb1.below (Ev.trans ‹Ev w1 w2› hE)
    have hc3 := hc1.below (Ev.trans ‹Ev w1 w2› hE)
    have hEw : Ev w w3 := hE1.trans (Ev.trans ‹Ev w1 w2› hE)
    clear hE hb1 hc1
    go_wp2_with fail
    refine (open_any A1 nc cap1 lc w3 hc3 (by omega)).mono ?_
    rintro e w4 ⟨v, rfl, hF4⟩
    have hE4 := hF4.ev
    obtain ⟨AD, capd, rfl, hownd, _⟩ := hF4
    have hD := Bs.own hownd
    have hb4 := hb3.below hE4
    have hc4 := hc3.below hE4
    have hEw4 := hEw.trans hE4
    clear hownd hb3 hc3 hEw hE4 hE1
    by_cases h4 : nc < 4
    · have hsF : isSealed lc = false := by unfold isSealed; rw [HC.out, decide_eq_false (by omega)]; rfl
      have hoF : opened lc = [] := by rw [opened, hsF, if_neg (by simp)]
      rw [hsF, hoF]
      rw [hoF] at hD
      simp only [List.length_nil] at hD ⊢
      have hg4 : decide ((nc : Int) ≥ 4) = false := by simp; omega
      clear hsF hoF
      go_wp2_with fail
      refine wp_region_slots hmix [fun v _ => v = .int .u32 (c0 : Int), fun v _ => v = .slice A0 nb cap0, fun v _ => v = .int .u32 (c0 : Int), fun v _ => v = .bool true, fun v _ => v = .bool true, fun v _ => v = .bool false, fun v _ => v = .slice A1 nc cap1, fun v _ => v = .int .i64 ((nc : Nat) : Int), fun v _ => v = .bool false, fun v _ => v = .bool false, fun _ _ => True, fun _ _ => True, fun _ _ => True, fun _ _ => True, fun _ _ => True, fun _ _ => True, fun _ _ => True, fun v _ => v = .bool false, fun v _ => v = .bool true, fun v _ => v = .bool true, fun v _ => v = .bool true, fun v _ => v = .bool false, fun v _ => v = .bool true, fun v _ => v = .bool true, fun _ _ => True, fun _ _ => True, fun _ _ => True, fun _ _ => True, fun _ _ => True, fun _ _ => True, fun v _ => v = .bool true, fun v _ => v = .bool true, fun v _ => v = .bool true, fun v _ => v = .bool false, fun v _ => v = .bool false, fun v _ => v = .slice AD 0 capd, fun v _ => v = .int .i64 ((0 : Nat) : Int), fun v _ => v = .bool true, fun v _ => v = .bool true, fun v _ => v = .bool true, fun v _ => v = .bool true, fun v _ => v = .bool true, fun v _ => v = .bool true, fun v _ => v = .bool true]
        105 rfl (by kernel_rfl) ⟨mono_eq _, mono_eq _, mono_eq _, mono_eq _, mono_eq _, mono_eq _, mono_eq _, mono_eq _, mono_eq _, mono_eq _, mono_true, mono_true, mono_true, mono_true, mono_true, mono_true, mono_true, mono_eq _, mono_eq _, mono_eq _, mono_eq _, mono_eq _, mono_eq _, mono_eq _, mono_true, mono_true, mono_true, mono_true, mono_true, mono_true, mono_eq _, mono_eq _, mono_eq _, mono_eq _, mono_eq _, mono_eq _, mono_eq _, mono_eq _, mono_eq _, mono_eq _, mono_eq _, mono_eq _, mono_eq _, mono_eq _, trivial⟩ ?_ ?_
      · refine ops_cons 0 ?_ (ops_cons 1 ?_ (ops_cons 2 ?_ (ops_cons 3 ?_ (ops_cons 4 ?_ (ops_cons 5 ?_ (ops_cons 6 ?_ (ops_cons 7 ?_ (ops_cons 8 ?_ (ops_cons 9 ?_ (ops_cons 10 ?_ (ops_cons 11 ?_ (ops_cons 12 ?_ (ops_cons 13 ?_ (ops_cons 14 ?_ (ops_cons 15 ?_ (ops_cons 16 ?_ (ops_cons 17 ?_ (ops_cons 18 ?_ (ops_cons 19 ?_ (ops_cons 20 ?_ (ops_cons 21 ?_ (ops_cons 22 ?_ (ops_cons 23 ?_ (ops_cons 24 ?_ (ops_cons 25 ?_ (ops_cons 26 ?_ (ops_cons 27 ?_ (ops_cons 28 ?_ (ops_cons 29 ?_ (ops_cons 30 ?_ (ops_cons 31 ?_ (ops_cons 32 ?_ (ops_cons 33 ?_ (ops_cons 34 ?_ (ops_cons 35 ?_ (ops_cons 36 ?_ (ops_cons 37 ?_ (ops_cons 38 ?_ (ops_cons 39 ?_ (ops_cons 40 ?_ (ops_cons 41 ?_ (ops_cons 42 ?_ (ops_cons 43 ?_ (ops_nil 44))))))))))))))))))))))))))))))))))))))))))))
        · refine op_value fun a w c => ⟨(wanted_plain rfl), _, run_move _ rfl w, (c.was 6 (by kernel_rfl) rfl)⟩
        · refine op_value fun a w c => ⟨(wanted_plain rfl), _, run_move _ rfl w, (c.was 0 (by kernel_rfl) rfl)⟩
        · refine op_call fun a w c => ⟨(wanted_plain rfl), 8, #[.slice A0 nb cap0], ?_, ?_⟩
          · rw [run_call 8 _ _ rfl (by kernel_rfl)]
            have e63 : a.eval (.tmp 63) = .slice A0 nb cap0 := (c.new 1 63 (by kernel_rfl) (by kernel_rfl))
            simp [e63]
          · refine (crc_any A0 nb cap0 lb _ (hb4.below c.ev)).mono ?_
            rintro e w5 ⟨rfl, rfl⟩
            exact ⟨_, by rw [HC0.out], Ev.refl _, rfl⟩
        · refine op_value fun a w c => ⟨(wanted_plain rfl), .bool true, ?_, rfl⟩
          have e62 : a.eval (.tmp 62) = .int .u32 (c0 : Int) := (c.new 0 62 (by kernel_rfl) (by kernel_rfl))
          have e64 : a.eval (.tmp 64) = .int .u32 (c0 : Int) := (c.new 2 64 (by kernel_rfl) (by kernel_rfl))
          generalize a.eval = ρ at e62 e64 ⊢
          simp [execOp, e62, e64, go_sem]
        · refine op_value fun a w c => ⟨(wanted_plain rfl), _, run_move _ rfl w, (c.new 3 65 (by kernel_rfl) (by kernel_rfl))⟩
        · refine op_value fun a w c => ⟨(wanted_yes rfl (by kernel_rfl) (c.new 4 66 (by kernel_rfl) (by kernel_rfl))), _, run_move _ rfl w, (c.was 8 (by kernel_rfl) rfl)⟩
        · refine op_value fun a w c => ⟨(wanted_yes rfl (by kernel_rfl) (c.new 4 66 (by kernel_rfl) (by kernel_rfl))), _, run_move _ rfl w, (c.was 1 (by kernel_rfl) rfl)⟩
        · refine op_value fun a w c => ⟨(wanted_yes rfl (by kernel_rfl) (c.new 4 66 (by kernel_rfl) (by kernel_rfl))), _, run_len_bytes rfl ((c.new 6 68 (by kernel_rfl) (by kernel_rfl)) : a.eval (.tmp 68) = .slice A1 nc cap1) w, rfl⟩
        · refine op_value fun a w c => ⟨(wanted_yes rfl (by kernel_rfl) (c.new 4 66 (by kernel_rfl) (by kernel_rfl))), .bool false, ?_, rfl⟩
          have e69 : a.eval (.tmp 69) = .int .i64 ((nc : Nat) : Int) := (c.new 7 69 (by kernel_rfl) (by kernel_rfl))
          have kc0 : a.eval (.const (.int .i64 4)) = .int .i64 4 := rfl
          generalize a.eval = ρ at e69 kc0 ⊢
          simp [execOp, e69, kc0, go_sem, hg4]
        · refine op_value fun a w c => ⟨(wanted_yes rfl (by kernel_rfl) (c.new 4 66 (by kernel_rfl) (by kernel_rfl))), _, run_move _ rfl w, (c.new 8 70 (by kernel_rfl) (by kernel_rfl))⟩
        · refine op_skip fun a w c => ⟨(wanted_no rfl (by kernel_rfl) (c.new 9 71 (by kernel_rfl) (by kernel_rfl)) (by decide)), trivial⟩
        · refine op_skip fun a w c => ⟨(wanted_no rfl (by kernel_rfl) (c.new 9 71 (by kernel_rfl) (by kernel_rfl)) (by decide)), trivial⟩
        · refine op_skip fun a w c => ⟨(wanted_no rfl (by kernel_rfl) (c.new 9 71 (by kernel_rfl) (by kernel_rfl)) (by decide)), trivial⟩
        · refine op_skip fun a w c => ⟨(wanted_no rfl (by kernel_rfl) (c.new 9 71 (by kernel_rfl) (by kernel_rfl)) (by decide)), trivial⟩
        · refine op_skip fun a w c => ⟨(wanted_no rfl (by kernel_rfl) (c.new 9 71 (by kernel_rfl) (by kernel_rfl)) (by decide)), trivial⟩
        · refine op_skip fun a w c => ⟨(wanted_no rfl (by kernel_rfl) (c.new 9 71 (by kernel_rfl) (by kernel_rfl)) (by decide)), trivial⟩
        · refine op_skip fun a w c => ⟨(wanted_no rfl (by kernel_rfl) (c.new 9 71 (by kernel_rfl) (by kernel_rfl)) (by decide)), trivial⟩
        · refine op_value fun a w c => ⟨(wanted_yes rfl (by kernel_rfl) (c.new 4 66 (by kernel_rfl) (by kernel_rfl))), _, run_pick_false rfl (c.new 9 71 (by kernel_rfl) (by kernel_rfl)) w, (evc a _)⟩
        · refine op_value fun a w c => ⟨(wanted_yes rfl (by kernel_rfl) (c.new 4 66 (by kernel_rfl) (by kernel_rfl))), .bool true, ?_, rfl⟩
          have e67 : a.eval (.tmp 67) = .bool false := (c.new 5 67 (by kernel_rfl) (by kernel_rfl))
          have e79 : a.eval (.tmp 79) = .bool false := (c.new 17 79 (by kernel_rfl) (by kernel_rfl))
          generalize a.eval = ρ at e67 e79 ⊢
          simp [execOp, e67, e79, go_sem]
        · refine op_value fun a w c => ⟨(wanted_plain rfl), _, run_pick_true rfl (c.new 4 66 (by kernel_rfl) (by kernel_rfl)) w, (c.new 18 80 (by kernel_rfl) (by kernel_rfl))⟩
        · refine op_value fun a w c => ⟨(wanted_plain rfl), _, run_move _ rfl w, (c.new 19 81 (by kernel_rfl) (by kernel_rfl))⟩
        · refine op_value fun a w c => ⟨(wanted_yes rfl (by kernel_rfl) (c.new 20 82 (by kernel_rfl) (by kernel_rfl))), _, run_move _ rfl w, (c.was 8 (by kernel_rfl) rfl)⟩
        · refine op_value fun a w c => ⟨(wanted_yes rfl (by kernel_rfl) (c.new 20 82 (by kernel_rfl) (by kernel_rfl))), .bool true, ?_, rfl⟩
          have e83 : a.eval (.tmp 83) = .bool false := (c.new 21 83 (by kernel_rfl) (by kernel_rfl))
          generalize a.eval = ρ at e83 ⊢
          simp [execOp, e83, go_sem]
        · refine op_value fun a w c => ⟨(wanted_yes rfl (by kernel_rfl) (c.new 20 82 (by kernel_rfl) (by kernel_rfl))), _, run_move _ rfl w, (c.new 22 84 (by kernel_rfl) (by kernel_rfl))⟩
        · refine op_skip fun a w c => ⟨(wanted_no rfl (by kernel_rfl) (c.new 23 85 (by kernel_rfl) (by kernel_rfl)) (by decide)), trivial⟩
        · refine op_skip fun a w c => ⟨(wanted_no rfl (by kernel_rfl) (c.new 23 85 (by kernel_rfl) (by kernel_rfl)) (by decide)), trivial⟩
        · refine op_skip fun a w c => ⟨(wanted_no rfl (by kernel_rfl) (c.new 23 85 (by kernel_rfl) (by kernel_rfl)) (by decide)), trivial⟩
        · refine op_skip fun a w c => ⟨(wanted_no rfl (by kernel_rfl) (c.new 23 85 (by kernel_rfl) (by kernel_rfl)) (by decide)), trivial⟩
        · refine op_skip fun a w c => ⟨(wanted_no rfl (by kernel_rfl) (c.new 23 85 (by kernel_rfl) (by kernel_rfl)) (by decide)), trivial⟩
        · refine op_skip fun a w c => ⟨(wanted_no rfl (by kernel_rfl) (c.new 23 85 (by kernel_rfl) (by kernel_rfl)) (by decide)), trivial⟩
        · refine op_value fun a w c => ⟨(wanted_yes rfl (by kernel_rfl) (c.new 20 82 (by kernel_rfl) (by kernel_rfl))), _, run_pick_true rfl (c.new 23 85 (by kernel_rfl) (by kernel_rfl)) w, (evc a _)⟩
        · refine op_value fun a w c => ⟨(wanted_plain rfl), _, run_pick_true rfl (c.new 20 82 (by kernel_rfl) (by kernel_rfl)) w, (c.new 30 92 (by kernel_rfl) (by kernel_rfl))⟩
        · refine op_value fun a w c => ⟨(wanted_plain rfl), _, run_move _ rfl w, (c.new 31 93 (by kernel_rfl) (by kernel_rfl))⟩
        · refine op_value fun a w c => ⟨(wanted_yes rfl (by kernel_rfl) (c.new 32 94 (by kernel_rfl) (by kernel_rfl))), _, run_move _ rfl w, (c.was 8 (by kernel_rfl) rfl)⟩
        · refine op_value fun a w c => ⟨(wanted_yes rfl (by kernel_rfl) (c.new 32 94 (by kernel_rfl) (by kernel_rfl))), _, run_move _ rfl w, (c.new 33 95 (by kernel_rfl) (by kernel_rfl))⟩
        · refine op_value fun a w c => ⟨(wanted_yes rfl (by kernel_rfl) (c.new 34 96 (by kernel_rfl) (by kernel_rfl))), _, run_move _ rfl w, (c.was 7 (by kernel_rfl) rfl)⟩
        · refine op_value fun a w c => ⟨(wanted_yes rfl (by kernel_rfl) (c.new 34 96 (by kernel_rfl) (by kernel_rfl))), _, run_len_bytes rfl ((c.new 35 97 (by kernel_rfl) (by kernel_rfl)) : a.eval (.tmp 97) = .slice AD 0 capd) w, rfl⟩
        · refine op_value fun a w c => ⟨(wanted_yes rfl (by kernel_rfl) (c.new 34 96 (by kernel_rfl) (by kernel_rfl))), .bool true, ?_, rfl⟩
          have e98 : a.eval (.tmp 98) = .int .i64 ((0 : Nat) : Int) := (c.new 36 98 (by kernel_rfl) (by kernel_rfl))
          have kc0 : a.eval (.const (.int .i64 0)) = .int .i64 0 := rfl
          generalize a.eval = ρ at e98 kc0 ⊢
          simp [execOp, e98, kc0, go_sem]
        · refine op_value fun a w c => ⟨(wanted_yes rfl (by kernel_rfl) (c.new 32 94 (by kernel_rfl) (by kernel_rfl))), _, run_pick_false rfl (c.new 34 96 (by kernel_rfl) (by kernel_rfl)) w, (c.new 37 99 (by kernel_rfl) (by kernel_rfl))⟩
        · refine op_value fun a w c => ⟨(wanted_plain rfl), _, run_pick_true rfl (c.new 32 94 (by kernel_rfl) (by kernel_rfl)) w, (c.new 38 100 (by kernel_rfl) (by kernel_rfl))⟩
        · refine op_value fun a w c => ⟨(wanted_plain rfl), _, run_move _ rfl w, (c.new 39 101 (by kernel_rfl) (by kernel_rfl))⟩
        · refine op_call fun a w c => ⟨(wanted_yes rfl (by kernel_rfl) (c.new 40 102 (by kernel_rfl) (by kernel_rfl))), 10, #[], ?_, ?_⟩
          · rw [run_call 10 _ _ rfl (by kernel_rfl)]
            simp
          · refine (known_any _).mono ?_
            rintro e w5 ⟨rfl, hE5⟩
            exact ⟨_, rfl, hE5, rfl⟩
        · refine op_value fun a w c => ⟨(wanted_plain rfl), _, run_pick_true rfl (c.new 40 102 (by kernel_rfl) (by kernel_rfl)) w, (c.new 41 103 (by kernel_rfl) (by kernel_rfl))⟩
        · refine op_value fun a w c => ⟨(wanted_plain rfl), _, run_assign _ rfl w, (c.new 42 104 (by kernel_rfl) (by kernel_rfl))⟩
      intro s w6 hE hold hnew
      have f0 : s 0 = .slice A0 nb cap0 := hold 0 (by kernel_rfl)
      have f1 : s 1 = .slice A1 nc cap1 := hold 1 (by kernel_rfl)
      have f5 : s 5 = .slice (some ⟨g, 0, none⟩) n2 caps := hold 5 (by kernel_rfl)
      have f6 : s 6 = .int .u32 (c0 : Int) := hold 6 (by kernel_rfl)
      have f7 : s 7 = .slice AD 0 capd := hold 7 (by kernel_rfl)
      have f8 : s 8 = .bool false := hold 8 (by kernel_rfl)
      have f4 : s 4 = .bool true := hnew 43 4 (by kernel_rfl)
      have f62 : s 62 = .int .u32 (c0 : Int) := hnew 0 62 (by kernel_rfl)
      have f63 : s 63 = .slice A0 nb cap0 := hnew 1 63 (by kernel_rfl)
      have f64 : s 64 = .int .u32 (c0 : Int) := hnew 2 64 (by kernel_rfl)
      have f65 : s 65 = .bool true := hnew 3 65 (by kernel_rfl)
      have f66 : s 66 = .bool true := hnew 4 66 (by kernel_rfl)
      have f67 : s 67 = .bool false := hnew 5 67 (by kernel_rfl)
      have f68 : s 68 = .slice A1 nc cap1 := hnew 6 68 (by kernel_rfl)
      have f69 : s 69 = .int .i64 ((nc : Nat) : Int) := hnew 7 69 (by kernel_rfl)
      have f70 : s 70 = .bool false := hnew 8 70 (by kernel_rfl)
      have f71 : s 71 = .bool false := hnew 9 71 (by kernel_rfl)
      have f79 : s 79 = .bool false := hnew 17 79 (by kernel_rfl)
      have f80 : s 80 = .bool true := hnew 18 80 (by kernel_rfl)
      have f81 : s 81 = .bool true := hnew 19 81 (by kernel_rfl)
      have f82 : s 82 = .bool true := hnew 20 82 (by kernel_rfl)
      have f83 : s 83 = .bool false := hnew 21 83 (by kernel_rfl)
      have f84 : s 84 = .bool true := hnew 22 84 (by kernel_rfl)
      have f85 : s 85 = .bool true := hnew 23 85 (by kernel_rfl)
      have f92 : s 92 = .bool true := hnew 30 92 (by kernel_rfl)
      have f93 : s 93 = .bool true := hnew 31 93 (by kernel_rfl)
      have f94 : s 94 = .bool true := hnew 32 94 (by kernel_rfl)
      have f95 : s 95 = .bool false := hnew 33 95 (by kernel_rfl)
      have f96 : s 96 = .bool false := hnew 34 96 (by kernel_rfl)
      have f97 : s 97 = .slice AD 0 capd := hnew 35 97 (by kernel_rfl)
      have f98 : s 98 = .int .i64 ((0 : Nat) : Int) := hnew 36 98 (by kernel_rfl)
      have f99 : s 99 = .bool true := hnew 37 99 (by kernel_rfl)
      have f100 : s 100 = .bool true := hnew 38 100 (by kernel_rfl)
      have f101 : s 101 = .bool true := hnew 39 101 (by kernel_rfl)
      have f102 : s 102 = .bool true := hnew 40 102 (by kernel_rfl)
      have f103 : s 103 = .bool true := hnew 41 103 (by kernel_rfl)
      have f104 : s 104 = .bool true := hnew 42 104 (by kernel_rfl)
      change Exit.then _ _ .normal ⟨#[s 0, s 1, s 2, s 3, s 4, s 5, s 6, s 7, s 8, s 9, s 10, s 11, s 12, s 13, s 14, s 15, s 16, s 17, s 18, s 19, s 20, s 21, s 22, s 23, s 24, s 25, s 26, s 27, s 28, s 29, s 30, s 31, s 32, s 33, s 34, s 35, s 36, s 37, s 38, s 39, s 40, s 41, s 42, s 43, s 44, s 45, s 46, s 47, s 48, s 49, s 50, s 51, s 52, s 53, s 54, s 55, s 56, s 57, s 58, s 59, s 60, s 61, s 62, s 63, s 64, s 65, s 66, s 67, s 68, s 69, s 70, s 71, s 72, s 73, s 74, s 75, s 76, s 77, s 78, s 79, s 80, s 81, s 82, s 83, s 84, s 85, s 86, s 87, s 88, s 89, s 90, s 91, s 92, s 93, s 94, s 95, s 96, s 97, s 98, s 99, s 100, s 101, s 102, s 103, s 104], _⟩ _
      simp only [f0, f1, f5, f6, f7, f8, f4, f62, f63, f64, f65, f66, f67, f68, f69, f70, f71, f79, f80, f81, f82, f83, f84, f85, f92, f93, f94, f95, f96, f97, f98, f99, f100, f101, f102, f103, f104]
      clear hnew hold
      go_wp2
      go_ret
      exact ⟨rfl, hEw4.trans hE⟩
    · have h4' : 4 ≤ nc := by omega
      have h4i : (4 : Int) ≤ (nc : Int) := by omega
      have hC4 := hc4.from_ h4'
      cases hr : isSealed lc
      · have hoF : opened lc = [] := by rw [opened, hr, if_neg (by simp)]
        rw [hoF]
        rw [hoF] at hD
        simp only [List.length_nil] at hD ⊢
        have HQ : Hid ((seal_ (lc.drop 4) == lc) = false) := by
          unfold isSealed at hr
          rw [HC.out, decide_eq_true h4', Bool.true_and] at hr
          refine Lib.hid ?_
          rw [← hr, Bool.eq_iff_iff, beq_iff_eq, beq_iff_eq]
          exact eq_comm
        clear hr hoF
        go_wp2_with fail
        refine wp_region_slots hmix [fun v _ => v = .int .u32 (c0 : Int), fun v _ => v = .slice A0 nb cap0, fun v _ => v = .int .u32 (c0 : Int), fun v _ => v = .bool true, fun v _ => v = .bool true, fun v _ => v = .bool false, fun v _ => v = .slice A1 nc cap1, fun v _ => v = .int .i64 ((nc : Nat) : Int), fun v _ => v = .bool true, fun v _ => v = .bool true, fun v _ => v = .slice A1 nc cap1, fun v _ => v = .slice (from_ A1 cap1 4) (nc - 4) (cap1 - 4), Holds (seal_ (lc.drop 4)), fun v _ => v = .string ⟨(seal_ (lc.drop 4)).toArray⟩, fun v _ => v = .slice A1 nc cap1, fun v _ => v = .string ⟨(lc).toArray⟩, fun v _ => v = .bool false, fun v _ => v = .bool false, fun v _ => v = .bool true, fun v _ => v = .bool true, fun v _ => v = .bool true, fun v _ => v = .bool false, fun v _ => v = .bool true, fun v _ => v = .bool true, fun _ _ => True, fun _ _ => True, fun _ _ => True, fun _ _ => True, fun _ _ => True, fun _ _ => True, fun v _ => v = .bool true, fun v _ => v = .bool true, fun v _ => v = .bool true, fun v _ => v = .bool false, fun v _ => v = .bool false, fun v _ => v = .slice AD 0 capd, fun v _ => v = .int .i64 ((0 : Nat) : Int), fun v _ => v = .bool true, fun v _ => v = .bool true, fun v _ => v = .bool true, fun v _ => v = .bool true, fun v _ => v = .bool true, fun v _ => v = .bool true, fun v _ => v = .bool true]
          105 rfl (by kernel_rfl) ⟨mono_eq _, mono_eq _, mono_eq _, mono_eq _, mono_eq _, mono_eq _, mono_eq _, mono_eq _, mono_eq _, mono_eq _, mono_eq _, mono_eq _, Holds.mono _, mono_eq _, mono_eq _, mono_eq _, mono_eq _, mono_eq _, mono_eq _, mono_eq _, mono_eq _, mono_eq _, mono_eq _, mono_eq _, mono_true, mono_true, mono_true, mono_true, mono_true, mono_true, mono_eq _, mono_eq _, mono_eq _, mono_eq _, mono_eq _, mono_eq _, mono_eq _, mono_eq _, mono_eq _, mono_eq _, mono_eq _, mono_eq _, mono_eq _, mono_eq _, trivial⟩ ?_ ?_
        · refine ops_cons 0 ?_ (ops_cons 1 ?_ (ops_cons 2 ?_ (ops_cons 3 ?_ (ops_cons 4 ?_ (ops_cons 5 ?_ (ops_cons 6 ?_ (ops_cons 7 ?_ (ops_cons 8 ?_ (ops_cons 9 ?_ (ops_cons 10 ?_ (ops_cons 11 ?_ (ops_cons 12 ?_ (ops_cons 13 ?_ (ops_cons 14 ?_ (ops_cons 15 ?_ (ops_cons 16 ?_ (ops_cons 17 ?_ (ops_cons 18 ?_ (ops_cons 19 ?_ (ops_cons 20 ?_ (ops_cons 21 ?_ (ops_cons 22 ?_ (ops_cons 23 ?_ (ops_cons 24 ?_ (ops_cons 25 ?_ (ops_cons 26 ?_ (ops_cons 27 ?_ (ops_cons 28 ?_ (ops_cons 29 ?_ (ops_cons 30 ?_ (ops_cons 31 ?_ (ops_cons 32 ?_ (ops_cons 33 ?_ (ops_cons 34 ?_ (ops_cons 35 ?_ (ops_cons 36 ?_ (ops_cons 37 ?_ (ops_cons 38 ?_ (ops_cons 39 ?_ (ops_cons 40 ?_ (ops_cons 41 ?_ (ops_cons 42 ?_ (ops_cons 43 ?_ (ops_nil 44))))))))))))))))))))))))))))))))))))))))))))
          · refine op_value fun a w c => ⟨(wanted_plain rfl), _, run_move _ rfl w, (c.was 6 (by kernel_rfl) rfl)⟩
          · refine op_value fun a w c => ⟨(wanted_plain rfl), _, run_move _ rfl w, (c.was 0 (by kernel_rfl) rfl)⟩
          · refine op_call fun a w c => ⟨(wanted_plain rfl), 8, #[.slice A0 nb cap0], ?_, ?_⟩
            · rw [run_call 8 _ _ rfl (by kernel_rfl)]
              have e63 : a.eval (.tmp 63) = .slice A0 nb cap0 := (c.new 1 63 (by kernel_rfl) (by kernel_rfl))
              simp [e63]
            · refine (crc_any A0 nb cap0 lb _ (hb4.below c.ev)).mono ?_
              rintro e w5 ⟨rfl, rfl⟩
              exact ⟨_, by rw [HC0.out], Ev.refl _, rfl⟩
          · refine op_value fun a w c => ⟨(wanted_plain rfl), .bool true, ?_, rfl⟩
            have e62 : a.eval (.tmp 62) = .int .u32 (c0 : Int) := (c.new 0 62 (by kernel_rfl) (by kernel_rfl))
            have e64 : a.eval (.tmp 64) = .int .u32 (c0 : Int) := (c.new 2 64 (by kernel_rfl) (by kernel_rfl))
            generalize a.eval = ρ at e62 e64 ⊢
            simp [execOp, e62, e64, go_sem]
          · refine op_value fun a w c => ⟨(wanted_plain rfl), _, run_move _ rfl w, (c.new 3 65 (by kernel_rfl) (by kernel_rfl))⟩
          · refine op_value fun a w c => ⟨(wanted_yes rfl (by kernel_rfl) (c.new 4 66 (by kernel_rfl) (by kernel_rfl))), _, run_move _ rfl w, (c.was 8 (by kernel_rfl) rfl)⟩
          · refine op_value fun a w c => ⟨(wanted_yes rfl (by kernel_rfl) (c.new 4 66 (by kernel_rfl) (by kernel_rfl))), _, run_move _ rfl w, (c.was 1 (by kernel_rfl) rfl)⟩
          · refine op_value fun a w c => ⟨(wanted_yes rfl (by kernel_rfl) (c.new 4 66 (by kernel_rfl) (by kernel_rfl))), _, run_len_bytes rfl ((c.new 6 68 (by kernel_rfl) (by kernel_rfl)) : a.eval (.tmp 68) = .slice A1 nc cap1) w, rfl⟩
          · refine op_value fun a w c => ⟨(wanted_yes rfl (by kernel_rfl) (c.new 4 66 (by kernel_rfl) (by kernel_rfl))), .bool true, ?_, rfl⟩
            have e69 : a.eval (.tmp 69) = .int .i64 ((nc : Nat) : Int) := (c.new 7 69 (by kernel_rfl) (by kernel_rfl))
            have kc0 : a.eval (.const (.int .i64 4)) = .int .i64 4 := rfl
            generalize a.eval = ρ at e69 kc0 ⊢
            simp [execOp, e69, kc0, go_sem, h4i]
          · refine op_value fun a w c => ⟨(wanted_yes rfl (by kernel_rfl) (c.new 4 66 (by kernel_rfl) (by kernel_rfl))), _, run_move _ rfl w, (c.new 8 70 (by kernel_rfl) (by kernel_rfl))⟩
          · refine op_value fun a w c => ⟨(wanted_yes rfl (by kernel_rfl) (c.new 9 71 (by kernel_rfl) (by kernel_rfl))), _, run_move _ rfl w, (c.was 1 (by kernel_rfl) rfl)⟩
          · refine op_value fun a w c => ⟨(wanted_yes rfl (by kernel_rfl) (c.new 9 71 (by kernel_rfl) (by kernel_rfl))), _, run_from_bytes 4 rfl ((c.new 10 72 (by kernel_rfl) (by kernel_rfl)) : a.eval (.tmp 72) = .slice A1 nc cap1) rfl (by omega) (by omega) w, rfl⟩
          · refine op_call fun a w c => ⟨(wanted_yes rfl (by kernel_rfl) (c.new 9 71 (by kernel_rfl) (by kernel_rfl))), 9, #[.slice (from_ A1 cap1 4) (nc - 4) (cap1 - 4)], ?_, ?_⟩
            · rw [run_call 9 _ _ rfl (by kernel_rfl)]
              have e73 : a.eval (.tmp 73) = .slice (from_ A1 cap1 4) (nc - 4) (cap1 - 4) := (c.new 11 73 (by kernel_rfl) (by kernel_rfl))
              simp [e73]
            · refine (seal_any _ _ _ _ _ (hC4.below c.ev) (by omega)).mono ?_
              rintro e w5 ⟨v, rfl, hF⟩
              exact ⟨v, rfl, hF.ev, hF.holds⟩
          · refine op_value fun a w c => ⟨(wanted_yes rfl (by kernel_rfl) (c.new 9 71 (by kernel_rfl) (by kernel_rfl))), _, run_str rfl Try.underlying22 Try.underlying5 Try.underlying9 rfl ((c.new 12 74 (by kernel_rfl) (by kernel_rfl)) : Holds (seal_ (lc.drop 4)) _ _), rfl⟩
          · refine op_value fun a w c => ⟨(wanted_yes rfl (by kernel_rfl) (c.new 9 71 (by kernel_rfl) (by kernel_rfl))), _, run_move _ rfl w, (c.was 1 (by kernel_rfl) rfl)⟩
          · refine op_value fun a w c => ⟨(wanted_yes rfl (by kernel_rfl) (c.new 9 71 (by kernel_rfl) (by kernel_rfl))), _, run_str rfl Try.underlying22 Try.underlying5 Try.underlying9 ((c.new 14 76 (by kernel_rfl) (by kernel_rfl)) : a.eval (.tmp 76) = .slice A1 nc cap1) ⟨_, _, _, rfl, hc4.below c.ev⟩, rfl⟩
          · refine op_value fun a w c => ⟨(wanted_yes rfl (by kernel_rfl) (c.new 9 71 (by kernel_rfl) (by kernel_rfl))), .bool false, ?_, rfl⟩
            have e75 : a.eval (.tmp 75) = .string ⟨(seal_ (lc.drop 4)).toArray⟩ := (c.new 13 75 (by kernel_rfl) (by kernel_rfl))
            have e77 : a.eval (.tmp 77) = .string ⟨(lc).toArray⟩ := (c.new 15 77 (by kernel_rfl) (by kernel_rfl))
            generalize a.eval = ρ at e75 e77 ⊢
            simp [execOp, e75, e77, go_sem, HQ.out]
          · refine op_value fun a w c => ⟨(wanted_yes rfl (by kernel_rfl) (c.new 4 66 (by kernel_rfl) (by kernel_rfl))), _, run_pick_true rfl (c.new 9 71 (by kernel_rfl) (by kernel_rfl)) w, (c.new 16 78 (by kernel_rfl) (by kernel_rfl))⟩
          · refine op_value fun a w c => ⟨(wanted_yes rfl (by kernel_rfl) (c.new 4 66 (by kernel_rfl) (by kernel_rfl))), .bool true, ?_, rfl⟩
            have e67 : a.eval (.tmp 67) = .bool false := (c.new 5 67 (by kernel_rfl) (by kernel_rfl))
            have e79 : a.eval (.tmp 79) = .bool false := (c.new 17 79 (by kernel_rfl) (by kernel_rfl))
            generalize a.eval = ρ at e67 e79 ⊢
            simp [execOp, e67, e79, go_sem]
          · refine op_value fun a w c => ⟨(wanted_plain rfl), _, run_pick_true rfl (c.new 4 66 (by kernel_rfl) (by kernel_rfl)) w, (c.new 18 80 (by kernel_rfl) (by kernel_rfl))⟩
          · refine op_value fun a w c => ⟨(wanted_plain rfl), _, run_move _ rfl w, (c.new 19 81 (by kernel_rfl) (by kernel_rfl))⟩
          · refine op_value fun a w c => ⟨(wanted_yes rfl (by kernel_rfl) (c.new 20 82 (by kernel_rfl) (by kernel_rfl))), _, run_move _ rfl w, (c.was 8 (by kernel_rfl) rfl)⟩
          · refine op_value fun a w c => ⟨(wanted_yes rfl (by kernel_rfl) (c.new 20 82 (by kernel_rfl) (by kernel_rfl))), .bool true, ?_, rfl⟩
            have e83 : a.eval (.tmp 83) = .bool false := (c.new 21 83 (by kernel_rfl) (by kernel_rfl))
            generalize a.eval = ρ at e83 ⊢
            simp [execOp, e83, go_sem]
          · refine op_value fun a w c => ⟨(wanted_yes rfl (by kernel_rfl) (c.new 20 82 (by kernel_rfl) (by kernel_rfl))), _, run_move _ rfl w, (c.new 22 84 (by kernel_rfl) (by kernel_rfl))⟩
          · refine op_skip fun a w c => ⟨(wanted_no rfl (by kernel_rfl) (c.new 23 85 (by kernel_rfl) (by kernel_rfl)) (by decide)), trivial⟩
          · refine op_skip fun a w c => ⟨(wanted_no rfl (by kernel_rfl) (c.new 23 85 (by kernel_rfl) (by kernel_rfl)) (by decide)), trivial⟩
          · refine op_skip fun a w c => ⟨(wanted_no rfl (by kernel_rfl) (c.new 23 85 (by kernel_rfl) (by kernel_rfl)) (by decide)), trivial⟩
          · refine op_skip fun a w c => ⟨(wanted_no rfl (by kernel_rfl) (c.new 23 85 (by kernel_rfl) (by kernel_rfl)) (by decide)), trivial⟩
          · refine op_skip fun a w c => ⟨(wanted_no rfl (by kernel_rfl) (c.new 23 85 (by kernel_rfl) (by kernel_rfl)) (by decide)), trivial⟩
          · refine op_skip fun a w c => ⟨(wanted_no rfl (by kernel_rfl) (c.new 23 85 (by kernel_rfl) (by kernel_rfl)) (by decide)), trivial⟩
          · refine op_value fun a w c => ⟨(wanted_yes rfl (by kernel_rfl) (c.new 20 82 (by kernel_rfl) (by kernel_rfl))), _, run_pick_true rfl (c.new 23 85 (by kernel_rfl) (by kernel_rfl)) w, (evc a _)⟩
          · refine op_value fun a w c => ⟨(wanted_plain rfl), _, run_pick_true rfl (c.new 20 82 (by kernel_rfl) (by kernel_rfl)) w, (c.new 30 92 (by kernel_rfl) (by kernel_rfl))⟩
          · refine op_value fun a w c => ⟨(wanted_plain rfl), _, run_move _ rfl w, (c.new 31 93 (by kernel_rfl) (by kernel_rfl))⟩
          · refine op_value fun a w c => ⟨(wanted_yes rfl (by kernel_rfl) (c.new 32 94 (by kernel_rfl) (by kernel_rfl))), _, run_move _ rfl w, (c.was 8 (by kernel_rfl) rfl)⟩
          · refine op_value fun a w c => ⟨(wanted_yes rfl (by kernel_rfl) (c.new 32 94 (by kernel_rfl) (by kernel_rfl))), _, run_move _ rfl w, (c.new 33 95 (by kernel_rfl) (by kernel_rfl))⟩
          · refine op_value fun a w c => ⟨(wanted_yes rfl (by kernel_rfl) (c.new 34 96 (by kernel_rfl) (by kernel_rfl))), _, run_move _ rfl w, (c.was 7 (by kernel_rfl) rfl)⟩
          · refine op_value fun a w c => ⟨(wanted_yes rfl (by kernel_rfl) (c.new 34 96 (by kernel_rfl) (by kernel_rfl))), _, run_len_bytes rfl ((c.new 35 97 (by kernel_rfl) (by kernel_rfl)) : a.eval (.tmp 97) = .slice AD 0 capd) w, rfl⟩
          · refine op_value fun a w c => ⟨(wanted_yes rfl (by kernel_rfl) (c.new 34 96 (by kernel_rfl) (by kernel_rfl))), .bool true, ?_, rfl⟩
            have e98 : a.eval (.tmp 98) = .int .i64 ((0 : Nat) : Int) := (c.new 36 98 (by kernel_rfl) (by kernel_rfl))
            have kc0 : a.eval (.const (.int .i64 0)) = .int .i64 0 := rfl
            generalize a.eval = ρ at e98 kc0 ⊢
            simp [execOp, e98, kc0, go_sem]
          · refine op_value fun a w c => ⟨(wanted_yes rfl (by kernel_rfl) (c.new 32 94 (by kernel_rfl) (by kernel_rfl))), _, run_pick_false rfl (c.new 34 96 (by kernel_rfl) (by kernel_rfl)) w, (c.new 37 99 (by kernel_rfl) (by kernel_rfl))⟩
          · refine op_value fun a w c => ⟨(wanted_plain rfl), _, run_pick_true rfl (c.new 32 94 (by kernel_rfl) (by kernel_rfl)) w, (c.new 38 100 (by kernel_rfl) (by kernel_rfl))⟩
          · refine op_value fun a w c => ⟨(wanted_plain rfl), _, run_move _ rfl w, (c.new 39 101 (by kernel_rfl) (by kernel_rfl))⟩
          · refine op_call fun a w c => ⟨(wanted_yes rfl (by kernel_rfl) (c.new 40 102 (by kernel_rfl) (by kernel_rfl))), 10, #[], ?_, ?_⟩
            · rw [run_call 10 _ _ rfl (by kernel_rfl)]
              simp
            · refine (known_any _).mono ?_
              rintro e w5 ⟨rfl, hE5⟩
              exact ⟨_, rfl, hE5, rfl⟩
          · refine op_value fun a w c => ⟨(wanted_plain rfl), _, run_pick_true rfl (c.new 40 102 (by kernel_rfl) (by kernel_rfl)) w, (c.new 41 103 (by kernel_rfl) (by kernel_rfl))⟩
          · refine op_value fun a w c => ⟨(wanted_plain rfl), _, run_assign _ rfl w, (c.new 42 104 (by kernel_rfl) (by kernel_rfl))⟩
        intro s w6 hE hold hnew
        have f0 : s 0 = .slice A0 nb cap0 := hold 0 (by kernel_rfl)
        have f1 : s 1 = .slice A1 nc cap1 := hold 1 (by kernel_rfl)
        have f5 : s 5 = .slice (some ⟨g, 0, none⟩) n2 caps := hold 5 (by kernel_rfl)
        have f6 : s 6 = .int .u32 (c0 : Int) := hold 6 (by kernel_rfl)
        have f7 : s 7 = .slice AD 0 capd := hold 7 (by kernel_rfl)
        have f8 : s 8 = .bool false := hold 8 (by kernel_rfl)
        have f4 : s 4 = .bool true := hnew 43 4 (by kernel_rfl)
        have f62 : s 62 = .int .u32 (c0 : Int) := hnew 0 62 (by kernel_rfl)
        have f63 : s 63 = .slice A0 nb cap0 := hnew 1 63 (by kernel_rfl)
        have f64 : s 64 = .int .u32 (c0 : Int) := hnew 2 64 (by kernel_rfl)
        have f65 : s 65 = .bool true := hnew 3 65 (by kernel_rfl)
        have f66 : s 66 = .bool true := hnew 4 66 (by kernel_rfl)
        have f67 : s 67 = .bool false := hnew 5 67 (by kernel_rfl)
        have f68 : s 68 = .slice A1 nc cap1 := hnew 6 68 (by kernel_rfl)
        have f69 : s 69 = .int .i64 ((nc : Nat) : Int) := hnew 7 69 (by kernel_rfl)
        have f70 : s 70 = .bool true := hnew 8 70 (by kernel_rfl)
        have f71 : s 71 = .bool true := hnew 9 71 (by kernel_rfl)
        have f72 : s 72 = .slice A1 nc cap1 := hnew 10 72 (by kernel_rfl)
        have f73 : s 73 = .slice (from_ A1 cap1 4) (nc - 4) (cap1 - 4) := hnew 11 73 (by kernel_rfl)
        obtain ⟨A74, n74, cap74, f74, hB74⟩ := (hnew 12 74 (by kernel_rfl) : Holds (seal_ (lc.drop 4)) (s 74) w6)
        have f75 : s 75 = .string ⟨(seal_ (lc.drop 4)).toArray⟩ := hnew 13 75 (by kernel_rfl)
        have f76 : s 76 = .slice A1 nc cap1 := hnew 14 76 (by kernel_rfl)
        have f77 : s 77 = .string ⟨(lc).toArray⟩ := hnew 15 77 (by kernel_rfl)
        have f78 : s 78 = .bool false := hnew 16 78 (by kernel_rfl)
        have f79 : s 79 = .bool false := hnew 17 79 (by kernel_rfl)
        have f80 : s 80 = .bool true := hnew 18 80 (by kernel_rfl)
        have f81 : s 81 = .bool true := hnew 19 81 (by kernel_rfl)
        have f82 : s 82 = .bool true := hnew 20 82 (by kernel_rfl)
        have f83 : s 83 = .bool false := hnew 21 83 (by kernel_rfl)
        have f84 : s 84 = .bool true := hnew 22 84 (by kernel_rfl)
        have f85 : s 85 = .bool true := hnew 23 85 (by kernel_rfl)
        have f92 : s 92 = .bool true := hnew 30 92 (by kernel_rfl)
        have f93 : s 93 = .bool true := hnew 31 93 (by kernel_rfl)
        have f94 : s 94 = .bool true := hnew 32 94 (by kernel_rfl)
        have f95 : s 95 = .bool false := hnew 33 95 (by kernel_rfl)
        have f96 : s 96 = .bool false := hnew 34 96 (by kernel_rfl)
        have f97 : s 97 = .slice AD 0 capd := hnew 35 97 (by kernel_rfl)
        have f98 : s 98 = .int .i64 ((0 : Nat) : Int) := hnew 36 98 (by kernel_rfl)
        have f99 : s 99 = .bool true := hnew 37 99 (by kernel_rfl)
        have f100 : s 100 = .bool true := hnew 38 100 (by kernel_rfl)
        have f101 : s 101 = .bool true := hnew 39 101 (by kernel_rfl)
        have f102 : s 102 = .bool true := hnew 40 102 (by kernel_rfl)
        have f103 : s 103 = .bool true := hnew 41 103 (by kernel_rfl)
        have f104 : s 104 = .bool true := hnew 42 104 (by kernel_rfl)
        change Exit.then _ _ .normal ⟨#[s 0, s 1, s 2, s 3, s 4, s 5, s 6, s 7, s 8, s 9, s 10, s 11, s 12, s 13, s 14, s 15, s 16, s 17, s 18, s 19, s 20, s 21, s 22, s 23, s 24, s 25, s 26, s 27, s 28, s 29, s 30, s 31, s 32, s 33, s 34, s 35, s 36, s 37, s 38, s 39, s 40, s 41, s 42, s 43, s 44, s 45, s 46, s 47, s 48, s 49, s 50, s 51, s 52, s 53, s 54, s 55, s 56, s 57, s 58, s 59, s 60, s 61, s 62, s 63, s 64, s 65, s 66, s 67, s 68, s 69, s 70, s 71, s 72, s 73, s 74, s 75, s 76, s 77, s 78, s 79, s 80, s 81, s 82, s 83, s 84, s 85, s 86, s 87, s 88, s 89, s 90, s 91, s 92, s 93, s 94, s 95, s 96, s 97, s 98, s 99, s 100, s 101, s 102, s 103, s 104], _⟩ _
        simp only [f0, f1, f5, f6, f7, f8, f4, f62, f63, f64, f65, f66, f67, f68, f69, f70, f71, f72, f73, f74, f75, f76, f77, f78, f79, f80, f81, f82, f83, f84, f85, f92, f93, f94, f95, f96, f97, f98, f99, f100, f101, f102, f103, f104]
        clear hnew hold
        go_wp2
        go_ret
        exact ⟨rfl, hEw4.trans hE⟩
      · have hoF : opened lc = lc.drop 4 := by rw [opened, hr, if_pos rfl]
        have HQ : Hid ((seal_ (lc.drop 4) == lc) = true) := by
          unfold isSealed at hr
          rw [HC.out, decide_eq_true h4', Bool.true_and] at hr
          refine Lib.hid ?_
          rw [← hr, Bool.eq_iff_iff, beq_iff_eq, beq_iff_eq]
          exact eq_comm
        have hdl : (lc.drop 4).length = nc - 4 := by rw [List.length_drop, HC.out]
        rw [hoF, hdl]
        rw [hoF, hdl] at hD
        clear hr hoF hdl
        go_wp2_with fail
        refine wp_region_slots hmix [fun v _ => v = .int .u32 (c0 : Int), fun v _ => v = .slice A0 nb cap0, fun v _ => v = .int .u32 (c0 : Int), fun v _ => v = .bool true, fun v _ => v = .bool true, fun v _ => v = .bool true, fun v _ => v = .slice A1 nc cap1, fun v _ => v = .int .i64 ((nc : Nat) : Int), fun v _ => v = .bool true, fun v _ => v = .bool true, fun v _ => v = .slice A1 nc cap1, fun v _ => v = .slice (from_ A1 cap1 4) (nc - 4) (cap1 - 4), Holds (seal_ (lc.drop 4)), fun v _ => v = .string ⟨(seal_ (lc.drop 4)).toArray⟩, fun v _ => v = .slice A1 nc cap1, fun v _ => v = .string ⟨(lc).toArray⟩, fun v _ => v = .bool true, fun v _ => v = .bool true, fun v _ => v = .bool true, fun v _ => v = .bool true, fun v _ => v = .bool true, fun v _ => v = .bool true, fun v _ => v = .bool false, fun v _ => v = .bool false, fun v _ => v = .slice AD (nc - 4) capd, fun v _ => v = .string ⟨(lc.drop 4).toArray⟩, fun v _ => v = .slice A1 nc cap1, fun v _ => v = .slice (from_ A1 cap1 4) (nc - 4) (cap1 - 4), fun v _ => v = .string ⟨(lc.drop 4).toArray⟩, fun v _ => v = .bool true, fun v _ => v = .bool true, fun v _ => v = .bool true, fun v _ => v = .bool true, fun v _ => v = .bool true, fun v _ => v = .bool true, fun _ _ => True, fun _ _ => True, fun _ _ => True, fun v _ => v = .bool true, fun v _ => v = .bool true, fun v _ => v = .bool true, fun v _ => v = .bool true, fun v _ => v = .bool true, fun v _ => v = .bool true]
          105 rfl (by kernel_rfl) ⟨mono_eq _, mono_eq _, mono_eq _, mono_eq _, mono_eq _, mono_eq _, mono_eq _, mono_eq _, mono_eq _, mono_eq _, mono_eq _, mono_eq _, Holds.mono _, mono_eq _, mono_eq _, mono_eq _, mono_eq _, mono_eq _, mono_eq _, mono_eq _, mono_eq _, mono_eq _, mono_eq _, mono_eq _, mono_eq _, mono_eq _, mono_eq _, mono_eq _, mono_eq _, mono_eq _, mono_eq _, mono_eq _, mono_eq _, mono_eq _, mono_eq _, mono_true, mono_true, mono_true, mono_eq _, mono_eq _, mono_eq _, mono_eq _, mono_eq _, mono_eq _, trivial⟩ ?_ ?_
        · refine ops_cons 0 ?_ (ops_cons 1 ?_ (ops_cons 2 ?_ (ops_cons 3 ?_ (ops_cons 4 ?_ (ops_cons 5 ?_ (ops_cons 6 ?_ (ops_cons 7 ?_ (ops_cons 8 ?_ (ops_cons 9 ?_ (ops_cons 10 ?_ (ops_cons 11 ?_ (ops_cons 12 ?_ (ops_cons 13 ?_ (ops_cons 14 ?_ (ops_cons 15 ?_ (ops_cons 16 ?_ (ops_cons 17 ?_ (ops_cons 18 ?_ (ops_cons 19 ?_ (ops_cons 20 ?_ (ops_cons 21 ?_ (ops_cons 22 ?_ (ops_cons 23 ?_ (ops_cons 24 ?_ (ops_cons 25 ?_ (ops_cons 26 ?_ (ops_cons 27 ?_ (ops_cons 28 ?_ (ops_cons 29 ?_ (ops_cons 30 ?_ (ops_cons 31 ?_ (ops_cons 32 ?_ (ops_cons 33 ?_ (ops_cons 34 ?_ (ops_cons 35 ?_ (ops_cons 36 ?_ (ops_cons 37 ?_ (ops_cons 38 ?_ (ops_cons 39 ?_ (ops_cons 40 ?_ (ops_cons 41 ?_ (ops_cons 42 ?_ (ops_cons 43 ?_ (ops_nil 44))))))))))))))))))))))))))))))))))))))))))))
          · refine op_value fun a w c => ⟨(wanted_plain rfl), _, run_move _ rfl w, (c.was 6 (by kernel_rfl) rfl)⟩
          · refine op_value fun a w c => ⟨(wanted_plain rfl), _, run_move _ rfl w, (c.was 0 (by kernel_rfl) rfl)⟩
          · refine op_call fun a w c => ⟨(wanted_plain rfl), 8, #[.slice A0 nb cap0], ?_, ?_⟩
            · rw [run_call 8 _ _ rfl (by kernel_rfl)]
              have e63 : a.eval (.tmp 63) = .slice A0 nb cap0 := (c.new 1 63 (by kernel_rfl) (by kernel_rfl))
              simp [e63]
            · refine (crc_any A0 nb cap0 lb _ (hb4.below c.ev)).mono ?_
              rintro e w5 ⟨rfl, rfl⟩
              exact ⟨_, by rw [HC0.out], Ev.refl _, rfl⟩
          · refine op_value fun a w c => ⟨(wanted_plain rfl), .bool true, ?_, rfl⟩
            have e62 : a.eval (.tmp 62) = .int .u32 (c0 : Int) := (c.new 0 62 (by kernel_rfl) (by kernel_rfl))
            have e64 : a.eval (.tmp 64) = .int .u32 (c0 : Int) := (c.new 2 64 (by kernel_rfl) (by kernel_rfl))
            generalize a.eval = ρ at e62 e64 ⊢
            simp [execOp, e62, e64, go_sem]
          · refine op_value fun a w c => ⟨(wanted_plain rfl), _, run_move _ rfl w, (c.new 3 65 (by kernel_rfl) (by kernel_rfl))⟩
          · refine op_value fun a w c => ⟨(wanted_yes rfl (by kernel_rfl) (c.new 4 66 (by kernel_rfl) (by kernel_rfl))), _, run_move _ rfl w, (c.was 8 (by kernel_rfl) rfl)⟩
          · refine op_value fun a w c => ⟨(wanted_yes rfl (by kernel_rfl) (c.new 4 66 (by kernel_rfl) (by kernel_rfl))), _, run_move _ rfl w, (c.was 1 (by kernel_rfl) rfl)⟩
          · refine op_value fun a w c => ⟨(wanted_yes rfl (by kernel_rfl) (c.new 4 66 (by kernel_rfl) (by kernel_rfl))), _, run_len_bytes rfl ((c.new 6 68 (by kernel_rfl) (by kernel_rfl)) : a.eval (.tmp 68) = .slice A1 nc cap1) w, rfl⟩
          · refine op_value fun a w c => ⟨(wanted_yes rfl (by kernel_rfl) (c.new 4 66 (by kernel_rfl) (by kernel_rfl))), .bool true, ?_, rfl⟩
            have e69 : a.eval (.tmp 69) = .int .i64 ((nc : Nat) : Int) := (c.new 7 69 (by kernel_rfl) (by kernel_rfl))
            have kc0 : a.eval (.const (.int .i64 4)) = .int .i64 4 := rfl
            generalize a.eval = ρ at e69 kc0 ⊢
            simp [execOp, e69, kc0, go_sem, h4i]
          · refine op_value fun a w c => ⟨(wanted_yes rfl (by kernel_rfl) (c.new 4 66 (by kernel_rfl) (by kernel_rfl))), _, run_move _ rfl w, (c.new 8 70 (by kernel_rfl) (by kernel_rfl))⟩
          · refine op_value fun a w c => ⟨(wanted_yes rfl (by kernel_rfl) (c.new 9 71 (by kernel_rfl) (by kernel_rfl))), _, run_move _ rfl w, (c.was 1 (by kernel_rfl) rfl)⟩
          · refine op_value fun a w c => ⟨(wanted_yes rfl (by kernel_rfl) (c.new 9 71 (by kernel_rfl) (by kernel_rfl))), _, run_from_bytes 4 rfl ((c.new 10 72 (by kernel_rfl) (by kernel_rfl)) : a.eval (.tmp 72) = .slice A1 nc cap1) rfl (by omega) (by omega) w, rfl⟩
          · refine op_call fun a w c => ⟨(wanted_yes rfl (by kernel_rfl) (c.new 9 71 (by kernel_rfl) (by kernel_rfl))), 9, #[.slice (from_ A1 cap1 4) (nc - 4) (cap1 - 4)], ?_, ?_⟩
            · rw [run_call 9 _ _ rfl (by kernel_rfl)]
              have e73 : a.eval (.tmp 73) = .slice (from_ A1 cap1 4) (nc - 4) (cap1 - 4) := (c.new 11 73 (by kernel_rfl) (by kernel_rfl))
              simp [e73]
            · refine (seal_any _ _ _ _ _ (hC4.below c.ev) (by omega)).mono ?_
              rintro e w5 ⟨v, rfl, hF⟩
              exact ⟨v, rfl, hF.ev, hF.holds⟩
          · refine op_value fun a w c => ⟨(wanted_yes rfl (by kernel_rfl) (c.new 9 71 (by kernel_rfl) (by kernel_rfl))), _, run_str rfl Try.underlying22 Try.underlying5 Try.underlying9 rfl ((c.new 12 74 (by kernel_rfl) (by kernel_rfl)) : Holds (seal_ (lc.drop 4)) _ _), rfl⟩
          · refine op_value fun a w c => ⟨(wanted_yes rfl (by kernel_rfl) (c.new 9 71 (by kernel_rfl) (by kernel_rfl))), _, run_move _ rfl w, (c.was 1 (by kernel_rfl) rfl)⟩
          · refine op_value fun a w c => ⟨(wanted_yes rfl (by kernel_rfl) (c.new 9 71 (by kernel_rfl) (by kernel_rfl))), _, run_str rfl Try.underlying22 Try.underlying5 Try.underlying9 ((c.new 14 76 (by kernel_rfl) (by kernel_rfl)) : a.eval (.tmp 76) = .slice A1 nc cap1) ⟨_, _, _, rfl, hc4.below c.ev⟩, rfl⟩
          · refine op_value fun a w c => ⟨(wanted_yes rfl (by kernel_rfl) (c.new 9 71 (by kernel_rfl) (by kernel_rfl))), .bool true, ?_, rfl⟩
            have e75 : a.eval (.tmp 75) = .string ⟨(seal_ (lc.drop 4)).toArray⟩ := (c.new 13 75 (by kernel_rfl) (by kernel_rfl))
            have e77 : a.eval (.tmp 77) = .string ⟨(lc).toArray⟩ := (c.new 15 77 (by kernel_rfl) (by kernel_rfl))
            generalize a.eval = ρ at e75 e77 ⊢
            simp [execOp, e75, e77, go_sem, HQ.out]
          · refine op_value fun a w c => ⟨(wanted_yes rfl (by kernel_rfl) (c.new 4 66 (by kernel_rfl) (by kernel_rfl))), _, run_pick_true rfl (c.new 9 71 (by kernel_rfl) (by kernel_rfl)) w, (c.new 16 78 (by kernel_rfl) (by kernel_rfl))⟩
          · refine op_value fun a w c => ⟨(wanted_yes rfl (by kernel_rfl) (c.new 4 66 (by kernel_rfl) (by kernel_rfl))), .bool true, ?_, rfl⟩
            have e67 : a.eval (.tmp 67) = .bool true := (c.new 5 67 (by kernel_rfl) (by kernel_rfl))
            have e79 : a.eval (.tmp 79) = .bool true := (c.new 17 79 (by kernel_rfl) (by kernel_rfl))
            generalize a.eval = ρ at e67 e79 ⊢
            simp [execOp, e67, e79, go_sem]
          · refine op_value fun a w c => ⟨(wanted_plain rfl), _, run_pick_true rfl (c.new 4 66 (by kernel_rfl) (by kernel_rfl)) w, (c.new 18 80 (by kernel_rfl) (by kernel_rfl))⟩
          · refine op_value fun a w c => ⟨(wanted_plain rfl), _, run_move _ rfl w, (c.new 19 81 (by kernel_rfl) (by kernel_rfl))⟩
          · refine op_value fun a w c => ⟨(wanted_yes rfl (by kernel_rfl) (c.new 20 82 (by kernel_rfl) (by kernel_rfl))), _, run_move _ rfl w, (c.was 8 (by kernel_rfl) rfl)⟩
          · refine op_value fun a w c => ⟨(wanted_yes rfl (by kernel_rfl) (c.new 20 82 (by kernel_rfl) (by kernel_rfl))), .bool false, ?_, rfl⟩
            have e83 : a.eval (.tmp 83) = .bool true := (c.new 21 83 (by kernel_rfl) (by kernel_rfl))
            generalize a.eval = ρ at e83 ⊢
            simp [execOp, e83, go_sem]
          · refine op_value fun a w c => ⟨(wanted_yes rfl (by kernel_rfl) (c.new 20 82 (by kernel_rfl) (by kernel_rfl))), _, run_move _ rfl w, (c.new 22 84 (by kernel_rfl) (by kernel_rfl))⟩
          · refine op_value fun a w c => ⟨(wanted_yes rfl (by kernel_rfl) (c.new 23 85 (by kernel_rfl) (by kernel_rfl))), _, run_move _ rfl w, (c.was 7 (by kernel_rfl) rfl)⟩
          · refine op_value fun a w c => ⟨(wanted_yes rfl (by kernel_rfl) (c.new 23 85 (by kernel_rfl) (by kernel_rfl))), _, run_str rfl Try.underlying22 Try.underlying5 Try.underlying9 ((c.new 24 86 (by kernel_rfl) (by kernel_rfl)) : a.eval (.tmp 86) = .slice AD (nc - 4) capd) ⟨_, _, _, rfl, hD.below c.ev⟩, rfl⟩
          · refine op_value fun a w c => ⟨(wanted_yes rfl (by kernel_rfl) (c.new 23 85 (by kernel_rfl) (by kernel_rfl))), _, run_move _ rfl w, (c.was 1 (by kernel_rfl) rfl)⟩
          · refine op_value fun a w c => ⟨(wanted_yes rfl (by kernel_rfl) (c.new 23 85 (by kernel_rfl) (by kernel_rfl))), _, run_from_bytes 4 rfl ((c.new 26 88 (by kernel_rfl) (by kernel_rfl)) : a.eval (.tmp 88) = .slice A1 nc cap1) rfl (by omega) (by omega) w, rfl⟩
          · refine op_value fun a w c => ⟨(wanted_yes rfl (by kernel_rfl) (c.new 23 85 (by kernel_rfl) (by kernel_rfl))), _, run_str rfl Try.underlying22 Try.underlying5 Try.underlying9 ((c.new 27 89 (by kernel_rfl) (by kernel_rfl)) : a.eval (.tmp 89) = .slice (from_ A1 cap1 4) (nc - 4) (cap1 - 4)) ⟨_, _, _, rfl, hC4.below c.ev⟩, rfl⟩
          · refine op_value fun a w c => ⟨(wanted_yes rfl (by kernel_rfl) (c.new 23 85 (by kernel_rfl) (by kernel_rfl))), .bool true, ?_, rfl⟩
            have e87 : a.eval (.tmp 87) = .string ⟨(lc.drop 4).toArray⟩ := (c.new 25 87 (by kernel_rfl) (by kernel_rfl))
            have e90 : a.eval (.tmp 90) = .string ⟨(lc.drop 4).toArray⟩ := (c.new 28 90 (by kernel_rfl) (by kernel_rfl))
            generalize a.eval = ρ at e87 e90 ⊢
            simp [execOp, e87, e90, go_sem]
          · refine op_value fun a w c => ⟨(wanted_yes rfl (by kernel_rfl) (c.new 20 82 (by kernel_rfl) (by kernel_rfl))), _, run_pick_false rfl (c.new 23 85 (by kernel_rfl) (by kernel_rfl)) w, (c.new 29 91 (by kernel_rfl) (by kernel_rfl))⟩
          · refine op_value fun a w c => ⟨(wanted_plain rfl), _, run_pick_true rfl (c.new 20 82 (by kernel_rfl) (by kernel_rfl)) w, (c.new 30 92 (by kernel_rfl) (by kernel_rfl))⟩
          · refine op_value fun a w c => ⟨(wanted_plain rfl), _, run_move _ rfl w, (c.new 31 93 (by kernel_rfl) (by kernel_rfl))⟩
          · refine op_value fun a w c => ⟨(wanted_yes rfl (by kernel_rfl) (c.new 32 94 (by kernel_rfl) (by kernel_rfl))), _, run_move _ rfl w, (c.was 8 (by kernel_rfl) rfl)⟩
          · refine op_value fun a w c => ⟨(wanted_yes rfl (by kernel_rfl) (c.new 32 94 (by kernel_rfl) (by kernel_rfl))), _, run_move _ rfl w, (c.new 33 95 (by kernel_rfl) (by kernel_rfl))⟩
          · refine op_skip fun a w c => ⟨(wanted_no rfl (by kernel_rfl) (c.new 34 96 (by kernel_rfl) (by kernel_rfl)) (by decide)), trivial⟩
          · refine op_skip fun a w c => ⟨(wanted_no rfl (by kernel_rfl) (c.new 34 96 (by kernel_rfl) (by kernel_rfl)) (by decide)), trivial⟩
          · refine op_skip fun a w c => ⟨(wanted_no rfl (by kernel_rfl) (c.new 34 96 (by kernel_rfl) (by kernel_rfl)) (by decide)), trivial⟩
          · refine op_value fun a w c => ⟨(wanted_yes rfl (by kernel_rfl) (c.new 32 94 (by kernel_rfl) (by kernel_rfl))), _, run_pick_true rfl (c.new 34 96 (by kernel_rfl) (by kernel_rfl)) w, (evc a _)⟩
          · refine op_value fun a w c => ⟨(wanted_plain rfl), _, run_pick_true rfl (c.new 32 94 (by kernel_rfl) (by kernel_rfl)) w, (c.new 38 100 (by kernel_rfl) (by kernel_rfl))⟩
          · refine op_value fun a w c => ⟨(wanted_plain rfl), _, run_move _ rfl w, (c.new 39 101 (by kernel_rfl) (by kernel_rfl))⟩
          · refine op_call fun a w c => ⟨(wanted_yes rfl (by kernel_rfl) (c.new 40 102 (by kernel_rfl) (by kernel_rfl))), 10, #[], ?_, ?_⟩
            · rw [run_call 10 _ _ rfl (by kernel_rfl)]
              simp
            · refine (known_any _).mono ?_
              rintro e w5 ⟨rfl, hE5⟩
              exact ⟨_, rfl, hE5, rfl⟩
          · refine op_value fun a w c => ⟨(wanted_plain rfl), _, run_pick_true rfl (c.new 40 102 (by kernel_rfl) (by kernel_rfl)) w, (c.new 41 103 (by kernel_rfl) (by kernel_rfl))⟩
          · refine op_value fun a w c => ⟨(wanted_plain rfl), _, run_assign _ rfl w, (c.new 42 104 (by kernel_rfl) (by kernel_rfl))⟩
        intro s w6 hE hold hnew
        have f0 : s 0 = .slice A0 nb cap0 := hold 0 (by kernel_rfl)
        have f1 : s 1 = .slice A1 nc cap1 := hold 1 (by kernel_rfl)
        have f5 : s 5 = .slice (some ⟨g, 0, none⟩) n2 caps := hold 5 (by kernel_rfl)
        have f6 : s 6 = .int .u32 (c0 : Int) := hold 6 (by kernel_rfl)
        have f7 : s 7 = .slice AD (nc - 4) capd := hold 7 (by kernel_rfl)
        have f8 : s 8 = .bool true := hold 8 (by kernel_rfl)
        have f4 : s 4 = .bool true := hnew 43 4 (by kernel_rfl)
        have f62 : s 62 = .int .u32 (c0 : Int) := hnew 0 62 (by kernel_rfl)
        have f63 : s 63 = .slice A0 nb cap0 := hnew 1 63 (by kernel_rfl)
        have f64 : s 64 = .int .u32 (c0 : Int) := hnew 2 64 (by kernel_rfl)
        have f65 : s 65 = .bool true := hnew 3 65 (by kernel_rfl)
        have f66 : s 66 = .bool true := hnew 4 66 (by kernel_rfl)
        have f67 : s 67 = .bool true := hnew 5 67 (by kernel_rfl)
        have f68 : s 68 = .slice A1 nc cap1 := hnew 6 68 (by kernel_rfl)
        have f69 : s 69 = .int .i64 ((nc : Nat) : Int) := hnew 7 69 (by kernel_rfl)
        have f70 : s 70 = .bool true := hnew 8 70 (by kernel_rfl)
        have f71 : s 71 = .bool true := hnew 9 71 (by kernel_rfl)
        have f72 : s 72 = .slice A1 nc cap1 := hnew 10 72 (by kernel_rfl)
        have f73 : s 73 = .slice (from_ A1 cap1 4) (nc - 4) (cap1 - 4) := hnew 11 73 (by kernel_rfl)
        obtain ⟨A74, n74, cap74, f74, hB74⟩ := (hnew 12 74 (by kernel_rfl) : Holds (seal_ (lc.drop 4)) (s 74) w6)
        have f75 : s 75 = .string ⟨(seal_ (lc.drop 4)).toArray⟩ := hnew 13 75 (by kernel_rfl)
        have f76 : s 76 = .slice A1 nc cap1 := hnew 14 76 (by kernel_rfl)
        have f77 : s 77 = .string ⟨(lc).toArray⟩ := hnew 15 77 (by kernel_rfl)
        have f78 : s 78 = .bool true := hnew 16 78 (by kernel_rfl)
        have f79 : s 79 = .bool true := hnew 17 79 (by kernel_rfl)
        have f80 : s 80 = .bool true := hnew 18 80 (by kernel_rfl)
        have f81 : s 81 = .bool true := hnew 19 81 (by kernel_rfl)
        have f82 : s 82 = .bool true := hnew 20 82 (by kernel_rfl)
        have f83 : s 83 = .bool true := hnew 21 83 (by kernel_rfl)
        have f84 : s 84 = .bool false := hnew 22 84 (by kernel_rfl)
        have f85 : s 85 = .bool false := hnew 23 85 (by kernel_rfl)
        have f86 : s 86 = .slice AD (nc - 4) capd := hnew 24 86 (by kernel_rfl)
        have f87 : s 87 = .string ⟨(lc.drop 4).toArray⟩ := hnew 25 87 (by kernel_rfl)
        have f88 : s 88 = .slice A1 nc cap1 := hnew 26 88 (by kernel_rfl)
        have f89 : s 89 = .slice (from_ A1 cap1 4) (nc - 4) (cap1 - 4) := hnew 27 89 (by kernel_rfl)
        have f90 : s 90 = .string ⟨(lc.drop 4).toArray⟩ := hnew 28 90 (by kernel_rfl)
        have f91 : s 91 = .bool true := hnew 29 91 (by kernel_rfl)
        have f92 : s 92 = .bool true := hnew 30 92 (by kernel_rfl)
        have f93 : s 93 = .bool true := hnew 31 93 (by kernel_rfl)
        have f94 : s 94 = .bool true := hnew 32 94 (by kernel_rfl)
        have f95 : s 95 = .bool true := hnew 33 95 (by kernel_rfl)
        have f96 : s 96 = .bool true := hnew 34 96 (by kernel_rfl)
        have f100 : s 100 = .bool true := hnew 38 100 (by kernel_rfl)
        have f101 : s 101 = .bool true := hnew 39 101 (by kernel_rfl)
        have f102 : s 102 = .bool true := hnew 40 102 (by kernel_rfl)
        have f103 : s 103 = .bool true := hnew 41 103 (by kernel_rfl)
        have f104 : s 104 = .bool true := hnew 42 104 (by kernel_rfl)
        change Exit.then _ _ .normal ⟨#[s 0, s 1, s 2, s 3, s 4, s 5, s 6, s 7, s 8, s 9, s 10, s 11, s 12, s 13, s 14, s 15, s 16, s 17, s 18, s 19, s 20, s 21, s 22, s 23, s 24, s 25, s 26, s 27, s 28, s 29, s 30, s 31, s 32, s 33, s 34, s 35, s 36, s 37, s 38, s 39, s 40, s 41, s 42, s 43, s 44, s 45, s 46, s 47, s 48, s 49, s 50, s 51, s 52, s 53, s 54, s 55, s 56, s 57, s 58, s 59, s 60, s 61, s 62, s 63, s 64, s 65, s 66, s 67, s 68, s 69, s 70, s 71, s 72, s 73, s 74, s 75, s 76, s 77, s 78, s 79, s 80, s 81, s 82, s 83, s 84, s 85, s 86, s 87, s 88, s 89, s 90, s 91, s 92, s 93, s 94, s 95, s 96, s 97, s 98, s 99, s 100, s 101, s 102, s 103, s 104], _⟩ _
        simp only [f0, f1, f5, f6, f7, f8, f4, f62, f63, f64, f65, f66, f67, f68, f69, f70, f71, f72, f73, f74, f75, f76, f77, f78, f79, f80, f81, f82, f83, f84, f85, f86, f87, f88, f89, f90, f91, f92, f93, f94, f95, f96, f100, f101, f102, f103, f104]
        clear hnew hold
        go_wp2
        go_ret
        exact ⟨rfl, hEw4.trans hE⟩


set_option maxRecDepth 100000 in
theorem lifted (os : Os) (started : os.Started) (H : Type) (enc : TypeId × Value → H) :
    ReturnsInHanded {} Try.checked os 6 .any (Rows.sumSealsSpec.pre6 enc Try.prog Try.f6 Rows.sumSealsRow.domain false) (Rows.sumSealsSpec.post enc Try.prog Try.f6 false true false false) := by
  refine returnsInHanded_of_change (C := Try.checked) own started (by kernel_rfl) Try.func6
    (ChangeSpec.witness6 (enc := enc) (C := Try.checked) false ⟨#[], #[.slice none 0 0, .slice none 0 0], []⟩ 8 (by kernel_rfl) (by kernel_rfl) (by kernel_rfl) (by kernel_rfl)) ?_
  intro W base args ds gs before hval0 hW hcnd _
  have hval : ∀ (j : Nat) t v, Try.f6.params[j]? = some t → args[j]? = some v → Value.okWide Try.prog W .any base t v := hval0
  have hW' := hW
  obtain ⟨p, q, hA0, hV, rfl, hfz, hnd⟩ := hW
  have hA : DataW.TrodAll enc Try.prog W 0 (fun _ => true) true Try.f6.params.toList args.toList ds p := hA0
  rw [Try.params6] at hA hval
  obtain ⟨v0, vs0, d0, ds0, p0, q0, hargs, rfl, rfl, h0, r0⟩ := trodAll_cons hA
  obtain ⟨v1, vs1, d1, ds1, p1, q1, rfl, rfl, rfl, h1, r1⟩ := trodAll_cons r0
  obtain ⟨rfl, rfl, rfl⟩ := trodAll_nil r1
  obtain rfl : args = #[v0, v1] := by cases args; simp_all
  obtain ⟨rfl, rfl⟩ := trodVars_none hV
  obtain ⟨A0, n0, cap0, rfl⟩ := okWide_slice Try.underlying22 (hval 0 22 v0 rfl rfl)
  have k0 := h0
  have lt0 : ∀ x ∈ p0, x.block < W.heap.size := by obtain ⟨m, hm⟩ := k0; exact DataW.trod_lt m _ _ _ hm
  obtain ⟨l0, b0⟩ : ∃ l, Bs W A0 n0 cap0 l := by
    obtain ⟨fuel, hf⟩ := h0
    rcases open_ints Try.underlying22 Try.underlying5 (by kernel_rfl) hf with ⟨hcs, _⟩ | ⟨x, l, c, zs, hcs, _, hl, hm, hz, _, hcell, hwz⟩
    · simp [Value.cells] at hcs
      obtain ⟨rfl, rfl, rfl⟩ := hcs
      exact ⟨[], Bs.nil_ W⟩
    · simp [Value.cells] at hcs
      obtain ⟨rfl, rfl, rfl⟩ := hcs
      exact Bs.came hl hm (by simpa using hz) hcell hwz
  obtain ⟨A1, n1, cap1, rfl⟩ := okWide_slice Try.underlying22 (hval 1 22 v1 rfl rfl)
  have k1 := h1
  have lt1 : ∀ x ∈ p1, x.block < W.heap.size := by obtain ⟨m, hm⟩ := k1; exact DataW.trod_lt m _ _ _ hm
  obtain ⟨l1, b1⟩ : ∃ l, Bs W A1 n1 cap1 l := by
    obtain ⟨fuel, hf⟩ := h1
    rcases open_ints Try.underlying22 Try.underlying5 (by kernel_rfl) hf with ⟨hcs, _⟩ | ⟨x, l, c, zs, hcs, _, hl, hm, hz, _, hcell, hwz⟩
    · simp [Value.cells] at hcs
      obtain ⟨rfl, rfl, rfl⟩ := hcs
      exact ⟨[], Bs.nil_ W⟩
    · simp [Value.cells] at hcs
      obtain ⟨rfl, rfl, rfl⟩ := hcs
      exact Bs.came hl hm (by simpa using hz) hcell hwz
  clear hA0 hval0
  refine (walk A0 n0 cap0 l0 A1 n1 cap1 l1 W b0 b1).mono fun e W' ⟨he, bel⟩ => ?_
  subst he
  exact ⟨_, rfl, _, _, _, [], _, [], hW', trodAll_mk1 (shut_bool Try.underlying4 _), (trodAll_cons_mk (Below.trod laidOut (by kernel_rfl) (of_decide_eq_true (by kernel_rfl)) k0 bel lt0) (trodAll_cons_mk (Below.trod laidOut (by kernel_rfl) (of_decide_eq_true (by kernel_rfl)) k1 bel lt1) trodAll_mk0)), rfl, bel.frame _, fun h => by cases h⟩

theorem over : Rows.sumSealsRow.holds Try.pinned (OpenSpec.ofChange Rows.sumSealsSpec) :=
  OpenClaim.holds_of_wide 6 Try.f6 rfl rfl rfl rfl rfl rfl rfl ⟨rfl, rfl, rfl, rfl, rfl⟩ rfl rfl rfl rfl rfl (by kernel_rfl) Try.func6 (by kernel_rfl)
    (of_decide_eq_true (by kernel_rfl)) (by unfold Func.isWrapper; first | (rw [if_pos (by decide +kernel)]; kernel_rfl) | (rw [if_neg (by decide +kernel)]; exact ⟨rfl, rfl⟩))
    (fun os started H enc _ => lifted os started H enc)

/-- The statement. -/
theorem proved : Rows.SumSealsSaid := over
#print axioms proved
end Go.Proofs.Ytmhgpbohkdndpaa.sumSeals
