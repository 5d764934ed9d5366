/-
  The contracts of package zset: mergePairs, ordered.
-/
import Derived.Test.YtcenjjoadhfhaaaZd
import Derived.Deep.Cut
namespace Go.Proofs.Ytcenjjoadhfhaaa
open Go.RowKit
set_option linter.unusedVariables false

theorem run_cut_items {ρ : Operand → Value} {o : Oper} {x : Operand} {A : Option Addr} {n cap : Nat} (lo hi k : Nat) {c c' : Operand} (ho : o.op = .slice 23 x (some c) (some c') none) (h : ρ x = .slice A n cap) (hc : ρ c = .int .i64 (lo : Int)) (hc' : ρ c' = .int .i64 (hi : Int)) (hk : hi = lo + k) (h0 : 0 < lo) (hle : hi ≤ cap) (w : World) :
    (execOp ρ o).run Try.prog w = .ok (.value (.slice (fromS 2 A cap lo) k (cap - lo))) w := by
  have h1 : (lo : Int) ≤ (hi : Int) := by omega
  have h2 : (0 : Int) ≤ (lo : Int) := by omega
  have h3 : (hi : Int) ≤ (cap : Int) := by omega
  have h4 : hi - lo = k := by omega
  have ht : Try.prog.underlying 23 = some (.slice (Try.prog.elem 23)) := by kernel_rfl
  have hs : (sizeOf (Try.prog.elem 23)).run Try.prog w = .ok 2 w := by kernel_rfl
  unfold execOp
  rw [ho]
  simp [h, hc, hc', run_sliceAt_slice w 23 _ _ _ _ ht, run_slice_lh w 23 A n cap ht .i64 .i64 (lo : Int) (hi : Int) h2 h1 h3, hs, Result.andThen, sliced, fromS, h4]
/-- What merge leaves. -/
def Merged (b0 : Nat) (w4 : World) (vk : Value) (Z : List J) (v : Value) (w : World) : Prop := Zrow w v Z ∧ ∀ g, v.ownBlock = some g → b0 ≤ g
theorem Merged.mono {b0 : Nat} {w4 : World} {vk : Value} {Z : List J} : Mono (Merged b0 w4 vk Z) := fun v w w' hE ⟨h, hh⟩ => ⟨h.ev hE, hh⟩

/-- How far the pairs are merged: M is merged, Z1 is left. -/
structure Pairing (w : World) (Z : List J) (K N : Nat) (v : Value) (M : List J) (A1 : Option Addr) (n1 c1 : Nat) (Z1 : List J) (wr : World) : Prop where
  own : Zrow wr v M
  high : ∀ g, v.ownBlock = some g → w.heap.size ≤ g
  rest : Zs w.heap.size wr A1 n1 c1 Z1
  alike : Alike keyJ (M ++ Z1) Z
  right : AllRight keyJ Z
  pieces : ∃ p q, Pieces keyJ p M ∧ Pieces keyJ q Z1 ∧ (2 * p + q ≤ K ∨ (q = 0 ∧ 2 * p ≤ K + 1))
  ev : Ev w wr
  size : M.length + n1 = N
theorem Pairing.okR {w : World} {Z : List J} {K N : Nat} {v : Value} {M : List J} {A1 : Option Addr} {n1 c1 : Nat} {Z1 : List J} {wr : World} (h : Pairing w Z K N v M A1 n1 c1 Z1 wr) : AllRight keyJ Z1 := fun z hz => h.right z (h.alike.mem (List.mem_append_right _ hz))
theorem split3 {α : Type} (l : List α) (k1 k2 : Nat) : l = l.take k1 ++ ((l.drop k1).take k2 ++ l.drop (k1 + k2)) := by
  rw [← List.drop_drop, List.take_append_drop, List.take_append_drop]
theorem Pairing.next {w : World} {Z : List J} {K N : Nat} {v : Value} {M : List J} {A1 : Option Addr} {n1 c1 : Nat} {Z1 : List J} {wr : World} (h : Pairing w Z K N v M A1 n1 c1 Z1 wr) (h0 : 0 < n1) {k1 k2 : Nat} (hk1 : IsRun keyJ Z1 k1) (hk2 : IsRun keyJ (Z1.drop k1) k2)
    {vn : Value} {w4 w5 : World} (hE4 : Ev wr w4) (hB : But (foot v) w4 w5) (hG : Merged w.heap.size w4 v (M ++ mergeF keyJ (Z1.take k1) ((Z1.drop k1).take k2)) vn w5) :
    Pairing w Z K N vn (M ++ mergeF keyJ (Z1.take k1) ((Z1.drop k1).take k2)) (fromS 2 A1 c1 (k1 + k2)) (n1 - (k1 + k2)) (c1 - (k1 + k2)) (Z1.drop (k1 + k2)) w5 := by
  have hr1 := h.okR
  have hlen := h.rest.len
  have hle1 := hk1.le
  have hle2 : k1 + k2 ≤ Z1.length := by have := hk2.le; rw [List.length_drop] at this; omega
  have hB' : Below w.heap.size w4 w5 := hB.below (Nat.le_trans h.ev.size hE4.size) fun k hk => h.high k (mem_foot.1 hk)
  have hE : Ev w w5 := Below.trans (h.ev.trans hE4) hB'
  refine ⟨hG.1, hG.2, ((h.rest.ev hE4).below hB').from_ (by omega), ?_, h.right, ?_, hE, ?_⟩
  · refine Alike.trans (fun r => ?_) h.alike
    conv => rhs; rw [split3 Z1 k1 k2]
    rw [atRow_append, atRow_append, atRow_append, mergeF_atRow _ _ (hr1.take k1) ((hr1.drop k1).take k2) (hk1.rises hr1), atRow_append, atRow_append, List.append_assoc, List.append_assoc]
  · obtain ⟨p, q, hp, hq, hpq⟩ := h.pieces
    have hms := mergeF_rises _ _ (hr1.take k1) ((hr1.drop k1).take k2) (hk1.rises hr1) (hk2.rises (hr1.drop k1))
    have hp' := hp.snoc hms
    cases q with
    | zero => have := hq.none; rw [this] at hlen; simp at hlen; omega
    | succ q =>
      have hq1 := hq.run hk1
      cases q with
      | zero =>
        refine ⟨p + 1, 0, hp', ?_, .inr ⟨rfl, by omega⟩⟩
        rw [← List.drop_drop, hq1.none, List.drop_nil]
        exact Pieces.nil_
      | succ q =>
        refine ⟨p + 1, q, hp', ?_, .inl (by omega)⟩
        rw [← List.drop_drop]
        exact hq1.run hk2
  · have := h.size
    rw [List.length_append, mergeF_length, List.length_take, List.length_take, List.length_drop]
    omega

set_option maxRecDepth 100000 in
set_option maxHeartbeats 8000000 in
theorem zset_mergePairs {A : Option Addr} {n cap : Nat} {Z : List J} (w : World) (h : Zs w.heap.size w A n cap Z) (hsz : n ≤ 1000000000000) (hr : AllRight keyJ Z) (K : Nat) (hp : Pieces keyJ K Z) :
    Calls Try.prog 33 #[.slice A n cap] w fun e w' => ∃ A' cap' Z', e = .returned (.slice A' n cap') ∧ Zs w'.heap.size w' A' n cap' Z' ∧ Alike keyJ Z' Z ∧ Pieces keyJ ((K + 1) / 2) Z' ∧ Ev w w' := by
  have hmix : Try.prog.follows .mixedOrders = true := by kernel_rfl
  obtain ⟨i0, hi0, hz0, hs0, hb0⟩ := info_parts Try.infoItem
  have hmk : ∀ w1 : World, Zrow w1 (.slice (some ⟨w.heap.size, 0, none⟩) 0 n) [] → w.grownBy w1 none → Pairing w Z K n (.slice (some ⟨w.heap.size, 0, none⟩) 0 n) [] A n cap Z w1 := fun w1 hz hg => by
    have hE : Ev w w1 := (But.grown (K := []) hg (fun g e => by cases e)).ev (fun k hk => by cases hk)
    exact ⟨hz, by rintro g ⟨⟩; exact Nat.le_refl _, h.ev hE, Alike.refl _, hr, ⟨0, K, Pieces.nil_, hp, .inl (by omega)⟩, hE, by simp⟩
  have HMK := Lib.hid hmk
  clear hmk h hr hp
  obtain ⟨b0, hbb⟩ : ∃ b0, b0 = w.heap.size := ⟨_, rfl⟩
  go_enter Try.func33, Try.ntmps33
  go_wp2_with (first | (at_make; refine wpList_make_own _ rfl (.const (.int .i64 0)) (.tmp 7) 23 rfl 0 31 i0 _ 2 Try.underlying23 hi0 hz0 hs0 .i64 .i64 (n : Int) n rfl rfl rfl (by rw [hb0]; omega) (by unfold maxLen; omega) (Nat.zero_le _) ?_; intro w1 hz1 hg1; have HST := Lib.hid (HMK.out w1 ⟨hz1, fun _ hz => by cases hz⟩ hg1)))
  go_loopw [0, 3] (fun zv vk wr => ∃ M A1 n1 c1 Z1, zv = .slice A1 n1 c1 ∧ Hid (Pairing w Z K n vk M A1 n1 c1 Z1 wr)) (fun zv _ _ => slen zv)
  case atStart => exact ⟨[], A, n, cap, Z, rfl, HST⟩
  case round =>
    obtain ⟨M, A1, n1, c1, Z1, rfl, HM⟩ := hrel
    obtain ⟨vk, hvk⟩ : ∃ vk, vk = u3 := ⟨_, rfl⟩
    rw [← hvk] at HM ⊢
    clear hvk
    have hn1 := HM.out.rest.le
    have hc1 := HM.out.rest.max
    have hN := HM.out.size
    by_cases k0 : 0 < n1
    · have i1 : (0 : Int) < (n1 : Int) := by omega
      have HR1 := Lib.hid (zset_run wr HM.out.rest)
      go_upto_region 4 with (first | ((with_reducible refine HR1.out.mono ?_); rintro e w2 ⟨⟨k1, rfl, hk1⟩, hE2⟩))
      have HK1 := Lib.hid hk1
      have j1 : k1 ≤ n1 := by rw [← HM.out.rest.len]; exact hk1.le
      have j2 : 1 ≤ k1 := hk1.pos (by rw [HM.out.rest.len]; exact k0)
      clear hk1
      have i2 : (0 : Int) ≤ (k1 : Int) := by omega
      have i3 : (k1 : Int) ≤ (n1 : Int) := by omega
      have hR2 := zset_run w2 ((HM.out.rest.ev hE2).from_ j1)
      obtain ⟨A2, hA2⟩ : ∃ A2, fromS 2 A1 c1 k1 = A2 := ⟨_, rfl⟩
      rw [hA2] at hR2
      have HA2 := Lib.hid hA2
      have HR2 := Lib.hid hR2
      clear hR2
      unfold fromS at hA2
      go_upto_region 5 with (first | ((with_reducible refine HR2.out.mono ?_); rintro e w4 ⟨⟨k2, rfl, hk2⟩, hE3⟩; obtain ⟨kb, hkb⟩ : ∃ kb, kb = k1 + k2 := ⟨_, rfl⟩; have j3 : k1 + k2 ≤ n1 := by {have := hk2.le; rw [List.length_drop, HM.out.rest.len] at this; omega}; have hadd : IntKind.i64.wrap ((k1 : Int) + (k2 : Int)) = (kb : Int) := by {rw [show (k1 : Int) + (k2 : Int) = (kb : Int) by omega]; exact IntWalk.i64_in _ (by omega)}))
      clear hadd
      have HK2 := Lib.hid hk2
      clear hk2
      rw [show (k1 : Int) + (k2 : Int) = (kb : Int) by omega]
      have hEr := hE2.trans hE3
      have hr4 := HM.out.rest.ev hEr
      rw [← hbb] at hr4
      have HMG := Lib.hid (fun w5 (h5 : Ev w4 w5) => zset_merge (b0 := b0) w5 ((HM.out.own.ev hEr).ev h5) (fun g hg => hbb ▸ HM.out.high g hg) ((hr4.ev h5).to k1 j1) (((hr4.ev h5).from_ j1).to k2 (by omega)) (by omega))
      have HKB := Lib.hid hkb
      have HKC : Hid (0 < k1) := Lib.hid j2
      have j4 : kb ≤ n1 := by omega
      have j5 : kb ≤ c1 := by omega
      have j6 : 1 ≤ kb := by omega
      clear hr4 hkb j3
      refine wp_region_slotsB hmix (foot vk) 8 [fun v _ => v = vk, fun v _ => v = .slice A1 n1 c1, fun v _ => v = .int .i64 (k1 : Int), fun v _ => v = .slice A1 k1 c1, fun v _ => v = .slice A1 n1 c1, fun v _ => v = .int .i64 (k1 : Int), fun v _ => v = .int .i64 (kb : Int), fun v _ => v = .slice (fromS 2 A1 c1 k1) k2 (c1 - k1), Merged b0 w4 vk (M ++ mergeF keyJ (Z1.take k1) ((Z1.drop k1).take k2)), Merged b0 w4 vk (M ++ mergeF keyJ (Z1.take k1) ((Z1.drop k1).take k2))]
        33 rfl (by kernel_rfl) ⟨mono_eq _, mono_eq _, mono_eq _, mono_eq _, mono_eq _, mono_eq _, mono_eq _, mono_eq _, Merged.mono, Merged.mono, trivial⟩ ⟨.inr (.inr (monoB_eq _ _)), .inr (.inr (monoB_eq _ _)), .inr (.inr (monoB_eq _ _)), .inr (.inr (monoB_eq _ _)), .inr (.inr (monoB_eq _ _)), .inr (.inr (monoB_eq _ _)), .inr (.inr (monoB_eq _ _)), .inr (.inr (monoB_eq _ _)), .inl rfl, .inr (.inl (by kernel_rfl)), trivial⟩ ?_ ?_
      · refine ops_cons 0 ?_ (ops_cons 1 ?_ (ops_cons 2 ?_ (ops_cons 3 ?_ (ops_cons 4 ?_ (ops_cons 5 ?_ (ops_cons 6 ?_ (ops_cons 7 ?_ (ops_cons 8 ?_ (ops_cons 9 ?_ (ops_nil 10))))))))))
        · refine opb_value fun a w c => ⟨(wanted_plain rfl), _, run_move _ rfl w, (c.was 3 (by kernel_rfl) rfl)⟩
        · refine opb_value fun a w c => ⟨(wanted_plain rfl), _, run_move _ rfl w, (c.was 0 (by kernel_rfl) rfl)⟩
        · refine opb_value fun a w c => ⟨(wanted_plain rfl), _, run_move _ rfl w, (c.was 4 (by kernel_rfl) rfl)⟩
        · refine opb_value fun a w c => ⟨(wanted_plain rfl), _, run_to_items k1 rfl ((c.new 1 21 (by kernel_rfl) (by kernel_rfl)) : a.eval (.tmp 21) = .slice A1 n1 c1) (c.new 2 22 (by kernel_rfl) (by kernel_rfl)) (by omega) w, rfl⟩
        · refine opb_value fun a w c => ⟨(wanted_plain rfl), _, run_move _ rfl w, (c.was 0 (by kernel_rfl) rfl)⟩
        · refine opb_value fun a w c => ⟨(wanted_plain rfl), _, run_move _ rfl w, (c.was 4 (by kernel_rfl) rfl)⟩
        · refine opb_value fun a w c => ⟨(wanted_plain rfl), _, run_move _ rfl w, (c.was 5 (by kernel_rfl) rfl)⟩
        · refine opb_value fun a w c => ⟨(wanted_plain rfl), _, run_cut_items k1 kb k2 rfl ((c.new 4 24 (by kernel_rfl) (by kernel_rfl)) : a.eval (.tmp 24) = .slice A1 n1 c1) (c.new 5 25 (by kernel_rfl) (by kernel_rfl)) (c.new 6 26 (by kernel_rfl) (by kernel_rfl)) HKB.out HKC.out (by omega) w, rfl⟩
        · refine opb_call fun a w c => ⟨(wanted_plain rfl), 49, #[vk, .slice A1 k1 c1, .slice (fromS 2 A1 c1 k1) k2 (c1 - k1)], ?_, ?_⟩
          · rw [run_call 49 _ _ rfl (by kernel_rfl)]
            have e_0 : a.eval (.tmp 20) = vk := (c.new 0 20 (by kernel_rfl) (by kernel_rfl))
            have e_1 : a.eval (.tmp 23) = .slice A1 k1 c1 := (c.new 3 23 (by kernel_rfl) (by kernel_rfl))
            have e_2 : a.eval (.tmp 27) = .slice (fromS 2 A1 c1 k1) k2 (c1 - k1) := (c.new 7 27 (by kernel_rfl) (by kernel_rfl))
            simp [e_0, e_1, e_2]
          · refine (HMG.out w (c.evm rfl)).mono ?_
            rintro e w' ⟨v', rfl, hz, hh, hbt, hsp⟩
            exact ⟨_, rfl, Turns.self hbt, hz, hh⟩
        · refine opb_value fun a w c => ⟨(wanted_plain rfl), _, run_assign _ rfl w, ((c.new 8 28 (by kernel_rfl) (by kernel_rfl)))⟩
      intro s w5 hB hold hnew
      have f0 : s 0 = .slice A1 n1 c1 := hold 0 (by kernel_rfl)
      have f1 : s 1 = undef := hold 1 (by kernel_rfl)
      have f2 : s 2 = .slice none 0 0 := hold 2 (by kernel_rfl)
      have f4 : s 4 = .int .i64 (k1 : Int) := hold 4 (by kernel_rfl)
      have f5 : s 5 = .int .i64 (kb : Int) := hold 5 (by kernel_rfl)
      have f6 : s 6 = .slice A n cap := hold 6 (by kernel_rfl)
      have f7 : s 7 = .int .i64 (n : Int) := hold 7 (by kernel_rfl)
      have f8 : s 8 = .slice (some ⟨w.heap.size, 0, none⟩) 0 n := hold 8 (by kernel_rfl)
      have f32 : s 32 = undef := hold 32 (by kernel_rfl)
      have f20 : s 20 = vk := hnew 0 20 (by kernel_rfl)
      have f21 : s 21 = .slice A1 n1 c1 := hnew 1 21 (by kernel_rfl)
      have f22 : s 22 = .int .i64 (k1 : Int) := hnew 2 22 (by kernel_rfl)
      have f23 : s 23 = .slice A1 k1 c1 := hnew 3 23 (by kernel_rfl)
      have f24 : s 24 = .slice A1 n1 c1 := hnew 4 24 (by kernel_rfl)
      have f25 : s 25 = .int .i64 (k1 : Int) := hnew 5 25 (by kernel_rfl)
      have f26 : s 26 = .int .i64 (kb : Int) := hnew 6 26 (by kernel_rfl)
      have f27 : s 27 = .slice (fromS 2 A1 c1 k1) k2 (c1 - k1) := hnew 7 27 (by kernel_rfl)
      have hG : Merged b0 w4 vk (M ++ mergeF keyJ (Z1.take k1) ((Z1.drop k1).take k2)) (s 3) w5 := hnew 9 3 (by kernel_rfl)
      change Exit.then _ _ .normal ⟨#[s 0, s 1, s 2, s 3, s 4, s 5, s 6, s 7, s 8, s 9, s 10, s 11, s 12, s 13, s 14, s 15, s 16, s 17, s 18, s 19, s 20, s 21, s 22, s 23, s 24, s 25, s 26, s 27, s 28, s 29, s 30, s 31, s 32], _⟩ _
      simp only [f0, f1, f2, f4, f5, f6, f7, f8, f32, f20, f21, f22, f23, f24, f25, f26, f27]
      clear hold hnew
      generalize s 9 = u9
      generalize s 10 = u10
      generalize s 11 = u11
      generalize s 12 = u12
      generalize s 13 = u13
      generalize s 14 = u14
      generalize s 15 = u15
      generalize s 16 = u16
      generalize s 17 = u17
      generalize s 18 = u18
      generalize s 19 = u19
      generalize s 29 = u29
      generalize s 30 = u30
      generalize s 31 = u31
      generalize s 3 = vn at *
      generalize s 28 = u28_
      obtain ⟨A3, hA3⟩ : ∃ A3, fromS 2 A1 c1 kb = A3 := ⟨_, rfl⟩
      have HA3 := Lib.hid hA3
      unfold fromS at hA3
      have i4 : (0 : Int) ≤ (kb : Int) := by omega
      have i5 : (kb : Int) ≤ (n1 : Int) := by omega
      go_wp2
      go_roundw
      case rel =>
        have hnx := HM.out.next k0 HK1.out HK2.out hEr hB (hbb ▸ hG)
        rw [← HKB.out, HA3.out] at hnx
        exact ⟨_, A3, _, _, _, rfl, Lib.hid hnx⟩
      case measure => simp [slen]; omega
    · have i1 : ¬ (0 : Int) < (n1 : Int) := by omega
      go_wp2
      go_ret
      have hZ1 : Z1 = [] := List.eq_nil_of_length_eq_zero (by rw [HM.out.rest.len]; omega)
      have hal := HM.out.alike
      rw [hZ1, List.append_nil] at hal
      obtain ⟨p, q, hp, hq, hpq⟩ := HM.out.pieces
      obtain ⟨A', cap', hv, hzs, _⟩ := HM.out.own.form
      have hMn : M.length = n := by omega
      rw [hMn] at hv hzs
      exact ⟨A', cap', congrArg Ending.returned hv, M, hzs, hal, hp.mono (by omega), HM.out.ev⟩

/-- What ordered has come to. -/
structure Ordering_ (w : World) (Z : List J) (n : Nat) (g : Nat) (A1 : Option Addr) (c1 : Nat) (Z1 : List J) (wr : World) : Prop where
  rest : Zs wr.heap.size wr A1 n c1 Z1
  alike : Alike keyJ Z1 Z
  right : AllRight keyJ Z
  pieces : Pieces keyJ g Z1
  ev : Ev w wr

set_option maxRecDepth 100000 in
set_option maxHeartbeats 4000000 in
theorem zset_ordered {A : Option Addr} {n cap : Nat} {Z : List J} (w : World) (h : Zs w.heap.size w A n cap Z) (hsz : n ≤ 1000000000000) (hr : AllRight keyJ Z) :
    Calls Try.prog 16 #[.slice A n cap] w fun e w' => ∃ A' cap' Z', e = .returned (.slice A' n cap') ∧ Zs w'.heap.size w' A' n cap' Z' ∧ Alike keyJ Z' Z ∧ Rises keyJ Z' ∧ Ev w w' := by
  have HST : Hid (Ordering_ w Z n n A cap Z w) := Lib.hid ⟨h, Alike.refl _, hr, by have := Pieces.singles (key := keyJ) Z; rwa [h.len] at this, Ev.refl _⟩
  clear h hr
  go_enter Try.func16, Try.ntmps16
  go_wp2
  go_loopg [0] n (fun g zv wr => ∃ A1 c1 Z1, zv = .slice A1 n c1 ∧ Hid (Ordering_ w Z n g A1 c1 Z1 wr))
  case atStart => exact ⟨A, cap, Z, rfl, HST⟩
  case round =>
    obtain ⟨A1, c1, Z1, rfl, HO⟩ := hrel
    have HR := Lib.hid (zset_run wr HO.out.rest)
    have HMP := Lib.hid (fun w1 (h1 : Ev wr w1) => zset_mergePairs w1 ((HO.out.rest.ev h1).wide h1.size (Nat.le_refl _)) hsz (HO.out.alike.symm.right HO.out.right) gk HO.out.pieces)
    go_upto_if 7 with (first | ((with_reducible refine HR.out.mono ?_); rintro e w2 ⟨⟨k, rfl, hk⟩, hE2⟩))
    have hkn : k ≤ n := by rw [← HO.out.rest.len]; exact hk.le
    by_cases hlt : k < n
    · have i1 : (k : Int) < (n : Int) := by omega
      have HG : Hid (2 ≤ gk) := Lib.hid (by
        by_cases h2 : 2 ≤ gk
        · exact h2
        · have := hk.whole (HO.out.pieces.mono (q := 1) (by omega)).one
          rw [HO.out.rest.len] at this; omega)
      clear hk
      go_wp2_with (first | ((with_reducible refine (HMP.out _ hE2).mono ?_); rintro e w3 ⟨A3, c3, Z3, rfl, hz3, ha3, hp3, hE3⟩))
      go_roundg ((gk + 1) / 2)
      case measure => have := HG.out; omega
      case rel => exact ⟨A3, c3, Z3, rfl, Lib.hid ⟨hz3, ha3.trans HO.out.alike, HO.out.right, hp3, (HO.out.ev.trans hE2).trans hE3⟩⟩
    · have i1 : ¬ (k : Int) < (n : Int) := by omega
      have hrs : Rises keyJ Z1 := by
        have := hk.rises (HO.out.alike.symm.right HO.out.right)
        rwa [List.take_of_length_le (by rw [HO.out.rest.len]; omega)] at this
      have HRS := Lib.hid hrs
      clear hk hrs
      go_wp2
      go_ret
      have hz2 := (HO.out.rest.ev hE2).wide hE2.size (Nat.le_refl _)
      exact ⟨A1, c1, rfl, Z1, hz2, HO.out.alike, HRS.out, HO.out.ev.trans hE2⟩
end Go.Proofs.Ytcenjjoadhfhaaa
