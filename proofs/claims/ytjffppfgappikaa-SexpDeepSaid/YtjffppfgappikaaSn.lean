/-
  The walk of SexpDeep.
-/
import Derived.Test.YtjffppfgappikaaSm
import Derived.Deep.DeepCutAuto
namespace Go.Proofs.Ytjffppfgappikaa
open Go.RowKit
set_option linter.unusedVariables false

def deepS (N C : Nat) : By := List.replicate N 40 ++ (120 :: List.replicate C 41)
/-- So many brackets, each in the one before it, and within them the letter x. -/
def nestB : Nat → Nat → T → Bool
  | 0, i, t => t.kind == 2 && t.s == [120] && t.pos == i
  | r + 1, i, t => t.kind == 1 && t.pos == i && (match t.kids with | [t'] => nestB r (i + 1) t' | _ => false)
def deepOk (N C : Nat) : Bool :=
  if 12 < N then (sxRead (deepS N C)).2.1 == 14 && (sxRead (deepS N C)).2.2 == 12
  else if N < C then (sxRead (deepS N C)).2.1 == 12 && (sxRead (deepS N C)).2.2 == 2 * N + 1
  else if C < N then (sxRead (deepS N C)).2.1 == 10 && (sxRead (deepS N C)).2.2 == N + 1 + C
  else (sxRead (deepS N C)).2.1 == 0 && nestB N 0 (sxRead (deepS N C)).1
theorem deep_all : ∀ N, N < 20 → ∀ C, C < 20 → deepOk N C = true := by decide +kernel
theorem sx_cat (a b : By) : (⟨a.toArray⟩ : ByteArray) ++ ⟨b.toArray⟩ = ⟨(a ++ b).toArray⟩ := by
  apply toList_inj
  simp [Lib.toList_data]
theorem sx_size (l : By) : (⟨l.toArray⟩ : ByteArray).size = l.length := rfl
/-- The tree in its box, while one steps down. -/
structure DpSt (w : World) (g : Nat) (m : M) (wr : World) : Prop where
  box : wr.heap[g]? = some (.cells (mc m).toArray 24 (0, 0))
  lies : Lies 0 [g] wr m
  ev : Ev w wr
  base : w.heap.size ≤ g
theorem DpSt.cs {w : World} {g : Nat} {m : M} {wr : World} (h : DpSt w g m wr) : wr.cell? ⟨g, 0, none⟩ = some (.int .i64 m.kind) ∧ wr.cell? ⟨g, 1, none⟩ = some (.string ⟨m.s.toArray⟩) ∧ wr.cell? ⟨g, 2, none⟩ = some (.int .i64 m.n) ∧ wr.cell? ⟨g, 3, none⟩ = some (.slice m.A m.kids.length m.cap) ∧ wr.cell? ⟨g, 4, none⟩ = some (.int .i64 (m.pos : Int)) ∧
    wr.frozen? ⟨g, 0, none⟩ = false ∧ wr.frozen? ⟨g, 1, none⟩ = false ∧ wr.frozen? ⟨g, 2, none⟩ = false ∧ wr.frozen? ⟨g, 3, none⟩ = false ∧ wr.frozen? ⟨g, 4, none⟩ = false := by
  refine ⟨?_, ?_, ?_, ?_, ?_, Lib.frozen_of_heap h.box 0, Lib.frozen_of_heap h.box 1, Lib.frozen_of_heap h.box 2, Lib.frozen_of_heap h.box 3, Lib.frozen_of_heap h.box 4⟩ <;> (rw [Lib.cell_of_heap h.box]; rfl)
theorem DpSt.down {w : World} {g : Nat} {m k0 : M} {wr : World} (h : DpSt w g m wr) (hk : m.kids = [k0]) : DpSt w g k0 (trSet g k0.kind k0.n k0.pos ⟨k0.s.toArray⟩ (.slice k0.A k0.kids.length k0.cap) wr) := by
  have hl := h.lies.kid k0 (by rw [hk]; exact List.mem_cons_self ..)
  refine ⟨?_, hl.move (trSet_but _ _ _ _ _ _ _) (fun x hx => .inl hx), h.ev.over1 (trSet_but _ _ _ _ _ _ _) h.base, h.base⟩
  have := set_heap 4 (.int .i64 (k0.pos : Int)) (set_heap 3 (.slice k0.A k0.kids.length k0.cap) (set_heap 2 (.int .i64 k0.n) (set_heap 1 (.string ⟨k0.s.toArray⟩) (set_heap 0 (.int .i64 k0.kind) h.box))))
  rwa [show ((((((mc m).toArray).setIfInBounds 0 (.int .i64 k0.kind)).setIfInBounds 1 (.string ⟨k0.s.toArray⟩)).setIfInBounds 2 (.int .i64 k0.n)).setIfInBounds 3 (.slice k0.A k0.kids.length k0.cap)).setIfInBounds 4 (.int .i64 (k0.pos : Int)) = (mc k0).toArray by simp [mc, M.kv]] at this
theorem nest_step {r i : Nat} {m : M} (h : nestB (r + 1) i m.t = true) : m.kind = 1 ∧ m.pos = i ∧ ∃ k0, m.kids = [k0] ∧ nestB r (i + 1) k0.t = true := by
  unfold nestB at h
  rw [M.t_kind, M.t_pos, M.t_kids] at h
  simp only [Bool.and_eq_true, beq_iff_eq] at h
  obtain ⟨⟨h1, h2⟩, h3⟩ := h
  cases hk : m.kids with
  | nil => rw [hk] at h3; simp at h3
  | cons a l =>
    cases l with
    | nil => rw [hk] at h3; exact ⟨h1, h2, a, rfl, h3⟩
    | cons b l => rw [hk] at h3; simp at h3
theorem nest_end {i : Nat} {m : M} (h : nestB 0 i m.t = true) : m.kind = 2 ∧ m.s = [120] ∧ m.pos = i := by
  unfold nestB at h
  rw [M.t_kind, M.t_pos] at h
  rw [M.t_eq] at h
  simp only [Bool.and_eq_true, beq_iff_eq, T.s] at h
  exact ⟨h.1.1, h.1.2, h.2⟩
theorem rep_snoc (k : Nat) (c : UInt8) : List.replicate k c ++ [c] = List.replicate (k + 1) c := by
  rw [List.replicate_succ']

set_option maxRecDepth 100000 in
set_option maxHeartbeats 4000000 in
theorem deep_walk (x0 x1 : Int) (w : World) (h0 : -9223372036854775808 ≤ x0 ∧ x0 ≤ 9223372036854775807) (h1 : -9223372036854775808 ≤ x1 ∧ x1 ≤ 9223372036854775807) :
    Calls Try.prog 4 #[.int .i64 x0, .int .i64 x1] w fun e w' => e = .returned (.bool true) ∧ Ev w w' := by
  go_enter Try.func4, Try.ntmps4
  go_upto_if 13 with fail
  go_cut [0] (fun v wx => ∃ y : Int, v = .int .i64 y ∧ 0 ≤ y ∧ y ≤ 9223372036854775807 ∧ w = wx)
  case first =>
    by_cases hs : x0 < 0
    · have i1 : wrap64 (x0 + 1) = x0 + 1 := by unfold wrap64; omega
      have i2 : wrap64 (-(x0 + 1)) = -(x0 + 1) := by unfold wrap64; omega
      go_wp2_with fail
      go_meet
      exact ⟨-(x0 + 1), rfl, by omega, by omega, rfl⟩
    · go_wp2_with fail
      go_meet
      exact ⟨x0, rfl, by omega, by omega, rfl⟩
  case rest =>
    obtain ⟨y0, rfl, hy0, hy1, rfl⟩ := hcut
    clear h0
    obtain ⟨N, hN, hN20⟩ : ∃ N : Nat, y0.tmod 20 = (N : Int) ∧ N < 20 := ⟨(y0 % 20).toNat, by rw [Int.tmod_eq_emod_of_nonneg hy0]; omega, by omega⟩
    go_upto_if 20 with fail
    go_cut [1] (fun v wx => ∃ y : Int, v = .int .i64 y ∧ 0 ≤ y ∧ y ≤ 9223372036854775807 ∧ w = wx)
    case first =>
      by_cases hs : x1 < 0
      · have i1 : wrap64 (x1 + 1) = x1 + 1 := by unfold wrap64; omega
        have i2 : wrap64 (-(x1 + 1)) = -(x1 + 1) := by unfold wrap64; omega
        go_wp2_with fail
        go_meet
        exact ⟨-(x1 + 1), rfl, by omega, by omega, rfl⟩
      · go_wp2_with fail
        go_meet
        exact ⟨x1, rfl, by omega, by omega, rfl⟩
    case rest =>
      obtain ⟨y1, rfl, hz0, hz1, rfl⟩ := hcut
      clear h1
      obtain ⟨C, hC, hC20⟩ : ∃ C : Nat, y1.tmod 20 = (C : Int) ∧ C < 20 := ⟨(y1 % 20).toNat, by rw [Int.tmod_eq_emod_of_nonneg hz0]; omega, by omega⟩
      go_wp2_with fail
      go_loop [5, 6] (fun s i => ∃ k : Nat, k ≤ N ∧ i = .int .i64 (k : Int) ∧ s = .string ⟨(List.replicate k (40 : UInt8)).toArray⟩) (fun _ i => N - (intOf i).toNat)
      case atStart => exact ⟨0, Nat.zero_le _, rfl, rfl⟩
      case round =>
        obtain ⟨k, hk, rfl, rfl⟩ := hrel
        have hl : (List.replicate k (40 : UInt8)).length = k := List.length_replicate
        have hcat : (⟨(List.replicate k (40 : UInt8)).toArray⟩ : ByteArray) ++ ⟨#[40]⟩ = ⟨(List.replicate (k + 1) (40 : UInt8)).toArray⟩ := (sx_cat _ [40]).trans (by rw [rep_snoc])
        have hz := sx_size (List.replicate k (40 : UInt8))
        generalize hl1 : List.replicate k (40 : UInt8) = l at *
        have HL1 := Lib.hid hl1
        generalize hl2 : List.replicate (k + 1) (40 : UInt8) = l2 at *
        have HL2 := Lib.hid hl2
        have HCat := Lib.hid hcat
        clear hl2 hl1
        by_cases hlt : k < N
        · clear hcat
          go_wp2
          go_round
          case rel => exact ⟨k + 1, by omega, by go_num, by rw [HL2.out]; exact congrArg Value.string HCat.out⟩
          case measure => simp [intOf]; omega
        · obtain rfl : k = N := by omega
          have hs0 : (⟨l.toArray⟩ : ByteArray) ++ ⟨#[120]⟩ = ⟨(deepS k 0).toArray⟩ := (sx_cat l [120]).trans (by rw [← HL1.out]; rfl)
          have HS0 := Lib.hid hs0
          clear hcat hs0 hk
          go_wp2
          rw [HS0.out]
          clear HS0 HL1 HL2 HCat hz hl
          go_loop [5, 7] (fun s i => ∃ j : Nat, j ≤ C ∧ i = .int .i64 (j : Int) ∧ s = .string ⟨(deepS k j).toArray⟩) (fun _ i => C - (intOf i).toNat)
          case atStart => exact ⟨0, Nat.zero_le _, rfl, rfl⟩
          case round =>
            obtain ⟨j, hj, rfl, rfl⟩ := hrel
            have hl : (deepS k j).length = k + 1 + j := by simp [deepS]; omega
            have hcat : (⟨(deepS k j).toArray⟩ : ByteArray) ++ ⟨#[41]⟩ = ⟨(deepS k (j + 1)).toArray⟩ := (sx_cat _ [41]).trans (by unfold deepS; rw [← rep_snoc, List.append_assoc, List.cons_append])
            have hz := sx_size (deepS k j)
            generalize hl1 : deepS k j = l' at *
            generalize hl2 : deepS k (j + 1) = l2 at *
            have HL2 := Lib.hid hl2
            have HL1 := Lib.hid hl1
            have HCat := Lib.hid hcat
            clear hl2 hl1 hcat
            by_cases hlt2 : j < C
            · go_wp2
              go_round
              case rel => exact ⟨j + 1, by omega, by go_num, by rw [HL2.out]; exact congrArg Value.string HCat.out⟩
              case measure => simp [intOf]; omega
            · obtain rfl : j = C := by omega
              have hD := deep_all k hN20 j hC20
              have hRd := sx_read ⟨l'.toArray⟩ w (by rw [hz, hl]; omega)
              have HKn := Lib.hid known7_any
              unfold deepOk at hD
              rw [HL1.out] at hD
              rw [show (⟨l'.toArray⟩ : ByteArray).data.toList = l' from rfl] at hRd
              generalize sxRead l' = R at *
              obtain ⟨Rt, Rw, Rp⟩ := R
              simp only at hD
              clear HL1 HL2 HCat
              by_cases k12 : 12 < k
              · rw [if_pos k12] at hD
                simp at hD
                obtain ⟨rfl, rfl⟩ := hD
                have HRd := Lib.hid hRd
                have i1 : (12 : Int) < (k : Int) := by omega
                go_wp2_with (first | ((with_reducible refine (HRd.out).mono ?_); rintro e w1 ⟨m, rfl, hmt, hml, hE1⟩; simp only []) | ((with_reducible refine (HKn.out _).mono ?_); rintro e w9 ⟨rfl, hE9⟩))
                go_ret
                exact ⟨rfl, (hE1.trans (Ev.alloc _ _)).trans hE9⟩
              · rw [if_neg k12] at hD
                have i1 : ¬ ((12 : Int) < (k : Int)) := by omega
                by_cases kC : k < j
                · rw [if_pos kC] at hD
                  simp at hD
                  obtain ⟨rfl, rfl⟩ := hD
                  have HRd := Lib.hid hRd
                  have i2 : (k : Int) < (j : Int) := by omega
                  go_wp2_with (first | ((with_reducible refine (HRd.out).mono ?_); rintro e w1 ⟨m, rfl, hmt, hml, hE1⟩; simp only []) | ((with_reducible refine (HKn.out _).mono ?_); rintro e w9 ⟨rfl, hE9⟩))
                  go_ret
                  exact ⟨rfl, (hE1.trans (Ev.alloc _ _)).trans hE9⟩
                · rw [if_neg kC] at hD
                  have i2 : ¬ ((k : Int) < (j : Int)) := by omega
                  by_cases Ck : j < k
                  · rw [if_pos Ck] at hD
                    simp at hD
                    obtain ⟨rfl, rfl⟩ := hD
                    have HRd := Lib.hid hRd
                    have i3 : (j : Int) < (k : Int) := by omega
                    go_wp2_with (first | ((with_reducible refine (HRd.out).mono ?_); rintro e w1 ⟨m, rfl, hmt, hml, hE1⟩; simp only []) | ((with_reducible refine (HKn.out _).mono ?_); rintro e w9 ⟨rfl, hE9⟩))
                    go_ret
                    exact ⟨rfl, (hE1.trans (Ev.alloc _ _)).trans hE9⟩
                  · rw [if_neg Ck] at hD
                    obtain rfl : j = k := by omega
                    simp at hD
                    obtain ⟨rfl, hD⟩ := hD
                    have HD := Lib.hid hD
                    have HRd := Lib.hid hRd
                    clear hD hRd
                    go_wp2_with (first | ((with_reducible refine (HRd.out).mono ?_); rintro e w1 ⟨m, rfl, hmt, hml, hE1⟩; simp only []))
                    have hST : DpSt w w1.heap.size m (w1.alloc (.cells #[.int .i64 m.kind, .string ⟨m.s.toArray⟩, .int .i64 m.n, .slice m.A m.kids.length m.cap, .int .i64 (m.pos : Int)] 24)) := ⟨heap_alloc_new w1 (.cells (mc m).toArray 24), ((hml.less (K' := [w1.heap.size]) (fun x hx => by simp at hx; exact .inr (.inr (by omega)))).ev (Ev.alloc _ _)).low (Nat.zero_le _), hE1.trans (Ev.alloc _ _), hE1.size⟩
                    have hnest : Hid (nestB j 0 m.t = true) := Lib.hid (by rw [hmt]; exact HD.out)
                    generalize (w1.alloc (.cells #[.int .i64 m.kind, .string ⟨m.s.toArray⟩, .int .i64 m.n, .slice m.A m.kids.length m.cap, .int .i64 (m.pos : Int)] 24)) = wb at *
                    generalize w1.heap.size = g at *
                    clear hmt hml hE1 HD HRd hz hl
                    go_loopw [11] (fun i wr => ∃ (q : Nat) (m' : M), q ≤ j ∧ i = .int .i64 (q : Int) ∧ Hid (nestB (j - q) q m'.t = true) ∧ DpSt w g m' wr) (fun i _ => j - (intOf i).toNat)
                    case atStart => exact ⟨0, m, Nat.zero_le _, rfl, hnest, hST⟩
                    case round =>
                      obtain ⟨q, m', hq, rfl, HN, ST⟩ := hrel
                      clear hST hnest
                      obtain ⟨c0, c1, c2, c3, c4, f0, f1, f2, f3, f4⟩ := ST.cs
                      by_cases hlt3 : q < j
                      · obtain ⟨r, hr⟩ : ∃ r, j - q = r + 1 := ⟨j - q - 1, by omega⟩
                        rw [hr] at HN
                        obtain ⟨hk1, hp1, k0, hkd, hn1⟩ := nest_step HN.out
                        have hms := ST.lies.ms
                        have hcap := hms.max
                        have hcap2 := hms.le
                        rw [hkd] at hms
                        obtain ⟨b, off, hA, hb, d0, d1, d2, d3, d4⟩ := hms.cell (i := 0) (x := k0) rfl
                        simp only [Nat.zero_mul, Nat.add_zero] at d0 d1 d2 d3 d4
                        rw [hA, hkd] at c3
                        rw [hk1] at c0
                        rw [hp1] at c4
                        rw [hkd] at hcap2
                        simp only [List.length_cons, List.length_nil, Nat.zero_add] at c3 hcap2
                        have hN2 : Hid (nestB (j - (q + 1)) (q + 1) k0.t = true) := Lib.hid (by rw [show j - (q + 1) = r by omega]; exact hn1)
                        have HK := Lib.hid hkd
                        unfold M.kv at d3
                        clear hn1 hkd hms HN hr hk1 hp1 hA
                        go_wp2
                        go_roundw
                        case rel =>
                          refine ⟨q + 1, k0, by omega, by go_num, hN2, ?_⟩
                          rw [trSet_fold]
                          exact ST.down HK.out
                        case measure => simp [intOf]; omega
                      · obtain rfl : q = j := by omega
                        rw [Nat.sub_self] at HN
                        obtain ⟨hk1, hs1, hp1⟩ := nest_end HN.out
                        rw [hk1] at c0
                        rw [hs1] at c1
                        rw [hp1] at c4
                        have hE := ST.ev
                        clear HN hk1 hs1 hp1
                        go_wp2_with (first | ((with_reducible refine (HKn.out _).mono ?_); rintro e w9 ⟨rfl, hE9⟩))
                        go_ret
                        exact ⟨rfl, hE.trans hE9⟩
end Go.Proofs.Ytjffppfgappikaa
