/-
  The walk of RowFinds.
-/
import Derived.Test.YtkjodlngpdihhaaLaw5
import Derived.Deep.DeepCutAuto
namespace Go.Proofs.Ytkjodlngpdihhaa
open Go.RowKit
set_option linter.unusedVariables false

theorem findC_is {l : List C} {s : ByteArray} {k : Nat} (h : findC l s = some k) : ∃ c, l[k]? = some c ∧ named s c = true := by
  unfold findC at h
  rw [List.findIdx?_eq_some_iff_getElem] at h
  obtain ⟨hk, h1, _⟩ := h
  exact ⟨_, List.getElem?_eq_getElem hk, h1⟩
theorem findC_first {l : List C} {s : ByteArray} {i : Nat} {c : C} (hc : l[i]? = some c) (h : named s c = true) : ∃ k, findC l s = some k ∧ k ≤ i := by
  cases hf : findC l s with
  | none =>
    unfold findC at hf
    rw [List.findIdx?_eq_none_iff] at hf
    rw [hf c (List.mem_of_getElem? hc)] at h
    cases h
  | some k =>
    refine ⟨k, rfl, ?_⟩
    unfold findC at hf
    rw [List.findIdx?_eq_some_iff_getElem] at hf
    obtain ⟨hk, _, h2⟩ := hf
    by_cases hle : k ≤ i
    · exact hle
    · obtain ⟨hi, rfl⟩ := List.getElem?_eq_some_iff.1 hc
      exact absurd h (h2 i (by omega))
theorem fitsL_ok : ∀ (l : List C) (r : List V), fitsL l r = true → okR r = true
  | [], [], _ => rfl
  | [], _ :: _, h => by cases h
  | _ :: _, [], h => by cases h
  | c :: l, x :: r, h => by
    simp only [fitsL, Bool.and_eq_true] at h
    have := fitsL_ok l r h.2
    unfold okR at this ⊢
    simp only [List.all_cons, Bool.and_eq_true]
    exact ⟨h.1.1, this⟩
theorem colsV_len {l : List C} (h : colsV l = 0) : 1 ≤ l.length ∧ l.length ≤ 6 := by
  unfold colsV at h
  by_cases h1 : 1 ≤ l.length
  · by_cases h2 : l.length ≤ 6
    · exact ⟨h1, h2⟩
    · rw [decide_eq_false h2] at h; simp at h
  · rw [decide_eq_false h1] at h; simp at h
theorem fits_right {l : List C} {r : List V} (h : colsV l = 0) (hf : fitsL l r = true) : rightR r = true := by
  have h1 := colsV_len h
  have h2 := fitsL_len l r hf
  unfold rightR
  rw [fitsL_ok l r hf, decide_eq_true (by omega), decide_eq_true (by omega)]
  rfl
/-- The other Kind in one place. -/
theorem other_right {k : Int} {n : Int} {s : ByteArray} (h : rightV k n s = true) : rightV (3 - k) 0 ⟨#[]⟩ = true ∧ 3 - k ≠ k := by
  rcases right_kind h with ⟨rfl, _⟩ | ⟨rfl, _, _⟩
  · exact ⟨by unfold rightV; rw [if_neg (by decide), if_pos (by decide)]; rfl, by decide⟩
  · exact ⟨by simp [rightV], by decide⟩
theorem right_set {r : List V} {q : Nat} {y : V} (h : rightR r = true) (hy : rightVV y = true) : rightR (r.set q y) = true := by
  have h1 := rightR_len h
  have h2 := rightR_ok h
  unfold rightR
  rw [List.length_set, decide_eq_true h1.1, decide_eq_true h1.2]
  unfold okR at h2 ⊢
  rw [List.all_eq_true] at h2
  simp only [Bool.and_self, Bool.true_and, List.all_eq_true]
  intro x hx
  rcases List.mem_or_eq_of_mem_set hx with h3 | rfl
  · exact h2 x h3
  · exact hy
theorem fits_set {l : List C} {r : List V} {q : Nat} {x y : V} (hf : fitsL l r = true) (hx : r[q]? = some x) (hk : y.1 ≠ x.1) : fitsL l (r.set q y) = false := by
  have hq := (List.getElem?_eq_some_iff.1 hx).1
  have hl := fitsL_len l r hf
  obtain ⟨c, hc⟩ : ∃ c, l[q]? = some c := ⟨_, List.getElem?_eq_getElem (by omega)⟩
  have h1 := fitsL_at q l r c x hf hc hx
  exact fitsL_not q l (r.set q y) c y hc (by rw [List.getElem?_set_self hq]) (.inr (fun e => hk (e.trans h1.2.symm)))
/-- A Value is stored into the call's own row. -/
theorem Vrow.set {w : World} {g cap : Nat} {l : List V} (h : Vrow w (.slice (some ⟨g, 0, none⟩) l.length cap) l) {q : Nat} (hq : q < l.length) (k n : Int) (s : ByteArray) :
    Vs (((w.setCell ⟨g, q * 3, none⟩ (.int .i64 k)).setCell ⟨g, q * 3 + 1, none⟩ (.int .i64 n)).setCell ⟨g, q * 3 + 2, none⟩ (.string s)) (some ⟨g, 0, none⟩) l.length cap (l.set q (k, n, s)) := by
  have h0 : w.ownsRow 0 61 3 (.slice (some ⟨g, 0, none⟩) l.length cap) l.length (vlist l) := h
  obtain ⟨cs, hcs⟩ : ∃ cs : Array Value, w.heap[g]? = some (.cells cs 61 (0, 0)) ∧ cs.size = cap * 3 ∧ cs.toList.take (l.length * 3) = vlist l := by
    rcases h0.2 with ⟨e, _⟩ | ⟨g', cap', cur, e, _, hg, _, _, hcs, ht⟩
    · cases e
    · cases e
      exact ⟨cur, hg, hcs, ht⟩
  obtain ⟨hg, hsz, htk⟩ := hcs
  have hcap : l.length ≤ cap := by
    rcases h0.2 with ⟨e, _⟩ | ⟨g', cap', cur, e, _, _, hnc, _⟩
    · cases e
    · cases e; exact hnc
  have hmax : cap ≤ 9223372036854775807 := by
    rcases h0.2 with ⟨e, _⟩ | ⟨g', cap', cur, e, _, _, _, hm, _⟩
    · cases e
    · cases e; simpa [maxLen] using hm
  have hw := set_heap (q * 3 + 2) (.string s) (set_heap (q * 3 + 1) (.int .i64 n) (set_heap (q * 3) (.int .i64 k) hg))
  refine ⟨by simp, hcap, hmax, by simp, fun hn => ⟨g, 0, rfl, (Array.getElem?_eq_some_iff.1 hw).1, fun i x hx j u hu => ?_⟩⟩
  have hi := (List.getElem?_eq_some_iff.1 hx).1
  rw [List.length_set] at hi
  have hj : j < 3 := (List.getElem?_eq_some_iff.1 hu).1
  rw [Lib.cell_of_heap hw, Nat.zero_add]
  by_cases hiq : i = q
  · subst hiq
    rw [List.getElem?_set_self hi] at hx
    obtain rfl := Option.some.inj hx
    have hb : i * 3 + 2 < cs.size := by rw [hsz]; omega
    have hjj : j = 0 ∨ j = 1 ∨ j = 2 := by omega
    rcases hjj with rfl | rfl | rfl
    · simp [vcells] at hu
      subst hu
      rw [show i * 3 + 0 = i * 3 from rfl, Array.getElem?_setIfInBounds_ne (by omega), Array.getElem?_setIfInBounds_ne (by omega), Array.getElem?_setIfInBounds_self_of_lt (by omega)]
    · simp [vcells] at hu
      subst hu
      rw [Array.getElem?_setIfInBounds_ne (by omega), Array.getElem?_setIfInBounds_self_of_lt (by simp; omega)]
    · simp [vcells] at hu
      subst hu
      rw [Array.getElem?_setIfInBounds_self_of_lt (by simp; omega)]
  · rw [List.getElem?_set_ne (fun e => hiq e.symm)] at hx
    have h1 := vlist_get l i x hx j u hu
    rw [← htk] at h1
    rw [List.getElem?_take] at h1
    split at h1
    · rw [Array.getElem?_setIfInBounds_ne (by omega), Array.getElem?_setIfInBounds_ne (by omega), Array.getElem?_setIfInBounds_ne (by omega), ← Array.getElem?_toList]
      exact h1
    · cases h1

theorem made_vals (w : World) : Vrow (w.alloc (.cells #[] 61)) (.slice (some ⟨w.heap.size, 0, none⟩) 0 0) [] := Vrow.of (base := 0) (World.ownsRow_made w #[] 0 (Nat.zero_le _) (by unfold maxLen; omega) rfl)
theorem Vrow.here {w : World} {v : Value} {l : List V} (h : Vrow w v l) (hl : 0 < l.length) : ∃ g cap, v = .slice (some ⟨g, 0, none⟩) l.length cap ∧ ∀ i, w.frozen? ⟨g, i, none⟩ = false := by
  have h0 : w.ownsRow 0 61 3 v l.length (vlist l) := h
  rcases h0.2 with ⟨_, e⟩ | ⟨g, cap, cur, rfl, _, hg, _⟩
  · omega
  · exact ⟨g, cap, rfl, fun i => Lib.frozen_of_heap hg i⟩
/-- What stays through RowFinds. -/
structure RfS (w0 : World) (A0 : Option Addr) (n0 c0 : Nat) (l : List C) (A1 : Option Addr) (n1 c1 : Nat) (r : List V) (w : World) : Prop where
  a : Cs w A0 n0 c0 l
  b : Vs w A1 n1 c1 r
  all : Ev w0 w
theorem RfS.ev {w0 : World} {A0 : Option Addr} {n0 c0 : Nat} {l : List C} {A1 : Option Addr} {n1 c1 : Nat} {r : List V} {w w' : World} (h : RfS w0 A0 n0 c0 l A1 n1 c1 r w) (hE : Ev w w') : RfS w0 A0 n0 c0 l A1 n1 c1 r w' :=
  ⟨h.a.ev hE, h.b.ev hE, h.all.trans hE⟩

set_option maxRecDepth 100000 in
set_option maxHeartbeats 8000000 in
theorem rf_walk (A0 : Option Addr) (n0 c0 : Nat) (l0 : List C) (A1 : Option Addr) (n1 c1 : Nat) (l1 : List V) (s : ByteArray) (x3 : Int) (w : World) (h0 : Cs w A0 n0 c0 l0) (h1 : Vs w A1 n1 c1 l1) (hx3 : -9223372036854775808 ≤ x3 ∧ x3 ≤ 9223372036854775807) :
    Calls Try.prog 6 #[.slice A0 n0 c0, .slice A1 n1 c1, .string s, .int .i64 x3] w fun e w' => e = .returned (.bool true) ∧ Ev w w' := by
  have hn0 := h0.le
  have hn1 := h1.le
  go_enter Try.func6, Try.ntmps6
  go_upto_if 16 with fail
  go_cut [0] (fun v wx => ∃ (m : Nat) (l : List C), v = .slice A0 m c0 ∧ Cs wx A0 m c0 l ∧ Vs wx A1 n1 c1 l1 ∧ Ev w wx)
  case first =>
    by_cases hs : (n0 : Int) > 8
    · go_wp2_with fail
      go_meet
      exact ⟨8, l0.take 8, rfl, h0.to 8 (by omega), h1, Ev.refl _⟩
    · go_wp2_with fail
      go_meet
      exact ⟨n0, l0, rfl, h0, h1, Ev.refl _⟩
  case rest =>
    obtain ⟨m0, l, rfl, hc, hv, hE⟩ := hcut
    clear h0 h1
    go_upto_if 21 with fail
    go_cut [1] (fun v wx => ∃ (m : Nat) (r : List V), v = .slice A1 m c1 ∧ m ≤ 8 ∧ RfS w A0 m0 c0 l A1 m c1 r wx)
    case first =>
      by_cases hs : (n1 : Int) > 8
      · go_wp2_with fail
        go_meet
        exact ⟨8, l1.take 8, rfl, Nat.le_refl _, hc, hv.to 8 (by omega), hE⟩
      · go_wp2_with fail
        go_meet
        exact ⟨n1, l1, rfl, by omega, hc, hv, hE⟩
    case rest =>
      obtain ⟨m1, r, rfl, hm8, S⟩ := hcut
      clear hc hv hE
      have hcl := S.a.le
      have hcm := S.a.max
      have hrl := S.b.le
      have hrm := S.b.max
      have HLl := Lib.hid S.a.len
      have HLr := Lib.hid S.b.len
      have HFd := fun w1 (h : Cs w1 A0 m0 c0 l) => row_find s w1 h
      have HCo := fun w1 (h : Cs w1 A0 m0 c0 l) => row_columns w1 h
      have HFi := fun w1 (h : Cs w1 A0 m0 c0 l) (h' : Vs w1 A1 m1 c1 r) => row_fits w1 h h'
      have HK := Lib.hid (fun w => known_any w)
      cases hf : findC l s with
      | some k0 =>
        obtain ⟨⟨ys, yk⟩, hy, hny⟩ := findC_is hf
        have hk0 : k0 < m0 := by rw [← HLl.out]; exact (List.getElem?_eq_some_iff.1 hy).1
        have HFirst : Hid (∀ i c, l[i]? = some c → named s c = true → k0 ≤ i) := Lib.hid (fun i c h1 h2 => by
          obtain ⟨k, h3, h4⟩ := findC_first h1 h2
          rw [hf] at h3
          obtain rfl := Option.some.inj h3
          exact h4)
        rw [hf] at HFd
        simp only [show foundAt (some k0) = (k0 : Int) from rfl, show (some k0).isSome = true from rfl] at HFd
        have HFd := Lib.hid HFd
        have HY := Lib.hid hy
        have HNY := Lib.hid hny
        clear hf hy hny
        go_wp2_with (first | ((with_reducible refine (HFd.out _ S.a).mono ?_); rintro x w2 ⟨rfl, hE2⟩; replace S := S.ev hE2))
        go_loop [11] (fun i => ∃ k : Nat, k ≤ m0 ∧ i = .int .i64 (k : Int)) (fun i => m0 - (intOf i).toNat)
        case atStart => exact ⟨0, Nat.zero_le _, rfl⟩
        case round =>
          obtain ⟨k, hk, rfl⟩ := hrel
          by_cases hlt : k < m0
          · obtain ⟨b, off, ⟨xs, xk⟩, rfl, hb, hx, c0_, c1_⟩ := S.a.ccell hlt
            have i1 : (0 : Int) ≤ (k : Int) := by omega
            have i2 : (k : Int) < (m0 : Int) := by omega
            simp only at c0_ c1_
            cases ht : (xs.toList == s.toList)
            · go_wp2
              go_round
              case rel => exact ⟨k + 1, by omega, by go_num⟩
              case measure => simp [intOf]; omega
            · have h4 := HFirst.out k _ hx ht
              have j4 : ¬ (k : Int) < (k0 : Int) := by omega
              go_wp2
              go_round
              case rel => exact ⟨k + 1, by omega, by go_num⟩
              case measure => simp [intOf]; omega
          · obtain rfl : k = m0 := by omega
            obtain ⟨b, off, ⟨xs, xk⟩, rfl, hb, hx, c0_, c1_⟩ := S.a.ccell hk0
            have hxy := Option.some.inj (HY.out.symm.trans hx)
            simp only [Prod.mk.injEq] at hxy
            obtain ⟨rfl, rfl⟩ := hxy
            have i1 : (0 : Int) ≤ (k0 : Int) := by omega
            have i2 : (k0 : Int) < (k : Int) := by omega
            simp only at c0_ c1_
            have h5 : (ys.toList == s.toList) = true := HNY.out
            have hne : (ys.toList != s.toList) = false := by rw [bne, h5]; rfl
            clear hx
            have b1 : decide ((k0 : Int) < 0) = false := decide_eq_false (by omega)
            have b2 : decide ((k : Int) ≤ (k0 : Int)) = false := decide_eq_false (by omega)
            have b3 : ¬ (k0 : Int) < 0 := by omega
            have b4 : ¬ (k : Int) ≤ (k0 : Int) := by omega
            have HCo := HCo
            by_cases hcv : colsV l = 0
            · rw [hcv] at HCo
              have HCo := Lib.hid HCo
              cases hfv : fitsL l r
              · rw [hfv] at HFi
                have HFi := Lib.hid HFi
                clear hcv hfv
                go_wp2_with (first | ((with_reducible refine (HCo.out _ S.a).mono ?_); rintro x w3 ⟨rfl, hE3⟩; replace S := S.ev hE3) | ((with_reducible refine (HFi.out _ S.a S.b).mono ?_); rintro x w4 ⟨rfl, hE4⟩; replace S := S.ev hE4) | ((with_reducible refine (HK.out _).mono ?_); rintro x w5 ⟨rfl, hE5⟩; replace S := S.ev hE5))
                go_ret
                exact ⟨rfl, S.all⟩
              · rw [hfv] at HFi
                have HFi := Lib.hid HFi
                have hrt := fits_right hcv hfv
                have hlr := fitsL_len l r hfv
                have hl1 := colsV_len hcv
                have hm1 : 0 < m1 := by rw [← HLr.out]; omega
                have HR := fun w1 (h : Vs w1 A1 m1 c1 r) => row_right w1 h
                rw [hrt] at HR
                have HR := Lib.hid HR
                have HRT := Lib.hid hrt
                have HFV := Lib.hid hfv
                clear hcv hfv hrt hlr hl1
                go_upto_if 94 with (first | ((with_reducible refine (HCo.out _ S.a).mono ?_); rintro x w3 ⟨rfl, hE3⟩; replace S := S.ev hE3) | ((with_reducible refine (HFi.out _ S.a S.b).mono ?_); rintro x w4 ⟨rfl, hE4⟩; replace S := S.ev hE4) | ((with_reducible refine (HR.out _ S.b).mono ?_); rintro x w5 ⟨rfl, hE5⟩; replace S := S.ev hE5))
                go_cut [3] (fun v wx => ∃ y : Nat, v = .int .i64 (y : Int) ∧ y ≤ 9223372036854775807 ∧ RfS w (some ⟨b, off, none⟩) k c0 l A1 m1 c1 r wx)
                case first =>
                  by_cases hneg : x3 < 0
                  · go_wp2_with fail
                    go_meet
                    exact ⟨(-(x3 + 1)).toNat, by congr 1; omega, by omega, S⟩
                  · go_wp2_with fail
                    go_meet
                    exact ⟨x3.toNat, by congr 1; omega, by omega, S⟩
                case rest =>
                  clear S
                  obtain ⟨y, rfl, hy, S⟩ := hcut
                  have HM := Lib.hid (made_vals wc)
                  go_upto_region 20 with (at_builtin; refine wpList_append_vals rfl (.tmp 98) (.tmp 99) rfl Try.underlying35 Try.infoVal (.slice (some ⟨wc.heap.size, 0, none⟩) 0 0) [] rfl HM.out A1 m1 c1 r rfl (S.b.ev (Ev.alloc _ _)) (by rw [HLr.out]; simp only [List.length_nil]; omega) ?_; intro v4 w4 hv4 hb4 hs4; have E4 : Ev wc w4 := Ev.rows (Ev.alloc wc _) (by simp [Value.ownBlock]) hb4; have hge := hs4.ge (w := wc) (by simp) (by simp [Value.ownBlock]); simp only [List.nil_append] at hv4; obtain ⟨g, cap, hve, hfz⟩ := Vrow.here hv4 (by rw [HLr.out]; exact hm1); rw [hve] at hv4 hge hs4; have hgw : wc.heap.size ≤ g := hge g rfl; have hgl := hv4.lt (g := g) rfl; subst hve; rw [HLr.out])
                  have q1 : y % m1 < m1 := Nat.mod_lt _ hm1
                  obtain ⟨q, hq⟩ : ∃ q, y % m1 = q := ⟨_, rfl⟩
                  have hqi : (y : Int) % (m1 : Int) = (q : Int) := by rw [← hq]; omega
                  have hqt : Int.tmod (y : Int) (m1 : Int) = (q : Int) := by rw [Int.tmod_eq_emod_of_nonneg (by omega)]; exact hqi
                  rw [hq] at q1
                  have S4 := S.ev E4
                  obtain ⟨A5, cap5, e5, hx5, _⟩ := hv4.vs
                  cases e5
                  rw [HLr.out] at hx5
                  obtain ⟨b9, off9, ⟨zk, zn, zs⟩, e9, _, hz, z0, z1, z2⟩ := hx5.vcell q1
                  cases e9
                  rw [Nat.zero_add] at z0 z1 z2
                  have i9 : (0 : Int) ≤ (q : Int) := by omega
                  have i10 : (q : Int) < (m1 : Int) := by omega
                  simp only at z0 z1 z2
                  have hzr : rightV zk zn zs = true := okR_at (rightR_ok HRT.out) hz
                  have hor := other_right hzr
                  have hzw : wrap64 (3 - zk) = 3 - zk := by
                    rcases right_kind hzr with ⟨rfl, _⟩ | ⟨rfl, _, _⟩ <;> (unfold wrap64; omega)
                  have f0 := hfz (q * 3)
                  have f1 := hfz (q * 3 + 1)
                  have f2 := hfz (q * 3 + 2)
                  have hql : q < r.length := by rw [HLr.out]; exact q1
                  have HNV : Hid (Vs (((w4.setCell ⟨g, q * 3, none⟩ (.int .i64 (3 - zk))).setCell ⟨g, q * 3 + 1, none⟩ (.int .i64 0)).setCell ⟨g, q * 3 + 2, none⟩ (.string ⟨#[]⟩)) (some ⟨g, 0, none⟩) r.length cap (r.set q (3 - zk, 0, ⟨#[]⟩))) := Lib.hid (hv4.set hql (3 - zk) 0 ⟨#[]⟩)
                  rw [HLr.out] at HNV
                  have HB4 : Hid (But [g] w4 (((w4.setCell ⟨g, q * 3, none⟩ (.int .i64 (3 - zk))).setCell ⟨g, q * 3 + 1, none⟩ (.int .i64 0)).setCell ⟨g, q * 3 + 2, none⟩ (.string ⟨#[]⟩))) := Lib.hid (((But.setCell ⟨g, q * 3, none⟩ _ (by simp)).then (But.setCell ⟨g, q * 3 + 1, none⟩ _ (by simp))).then (But.setCell ⟨g, q * 3 + 2, none⟩ _ (by simp)))
                  have HE5 := Lib.hid (But.new1 E4 hgw HB4.out)
                  have HFV2 : Hid (fitsL l (r.set q (3 - zk, 0, ⟨#[]⟩)) = false) := Lib.hid (fits_set HFV.out hz hor.2)
                  have HRT2 : Hid (rightR (r.set q (3 - zk, 0, ⟨#[]⟩)) = true) := Lib.hid (right_set HRT.out hor.1)
                  clear hor hzr hq q1 hv4 hb4 hs4 hge hx5 hz hql
                  go_upto_region 22 with fail
                  have HN5 := HNV.out
                  have E5 := HE5.out
                  clear HB4 HNV HE5 z0 z1 z2 f0 f1 f2 hfz
                  generalize (((w4.setCell ⟨g, q * 3, none⟩ (.int .i64 (3 - zk))).setCell ⟨g, q * 3 + 1, none⟩ (.int .i64 0)).setCell ⟨g, q * 3 + 2, none⟩ (.string ⟨#[]⟩)) = w5 at *
                  have S5 := S.ev E5
                  have HFx := fun w1 (h : Cs w1 (some ⟨b, off, none⟩) k c0 l) (h' : Vs w1 (some ⟨g, 0, none⟩) m1 cap (r.set q (3 - zk, 0, ⟨#[]⟩))) => row_fits w1 h h'
                  have HRx := fun w1 (h' : Vs w1 (some ⟨g, 0, none⟩) m1 cap (r.set q (3 - zk, 0, ⟨#[]⟩))) => row_right w1 h'
                  rw [HFV2.out] at HFx
                  rw [HRT2.out] at HRx
                  have HFx := Lib.hid HFx
                  have HRx := Lib.hid HRx
                  go_wp2_with (first | ((with_reducible refine (HFx.out _ S5.a HN5).mono ?_); rintro x w6 ⟨rfl, hE6⟩; have S6 := S5.ev hE6; have N6 := HN5.ev hE6) | ((with_reducible refine (HRx.out _ N6).mono ?_); rintro x w7 ⟨rfl, hE7⟩; have S7 := S6.ev hE7) | ((with_reducible refine (HK.out _).mono ?_); rintro x w8 ⟨rfl, hE8⟩))
                  go_ret
                  exact ⟨rfl, S7.all.trans hE8⟩
            · have HCo := Lib.hid HCo
              have hne1 : (colsV l != 0) = true := bne_iff_ne.2 hcv
              generalize colsV l = cv at *
              clear hcv HFi
              go_wp2_with (first | ((with_reducible refine (HCo.out _ S.a).mono ?_); rintro x w3 ⟨rfl, hE3⟩; replace S := S.ev hE3) | ((with_reducible refine (HK.out _).mono ?_); rintro x w5 ⟨rfl, hE5⟩; replace S := S.ev hE5))
              go_ret
              exact ⟨rfl, S.all⟩
      | none =>
        have HNone : Hid (∀ i c, l[i]? = some c → named s c = false) := Lib.hid (fun i c h1 => by
          cases h2 : named s c
          · rfl
          · obtain ⟨k, h3, h4⟩ := findC_first h1 h2
            rw [hf] at h3
            cases h3)
        rw [hf] at HFd
        simp only [show foundAt none = 0 from rfl, show (none : Option Nat).isSome = false from rfl] at HFd
        have HFd := Lib.hid HFd
        clear hf
        go_wp2_with (first | ((with_reducible refine (HFd.out _ S.a).mono ?_); rintro x w2 ⟨rfl, hE2⟩; replace S := S.ev hE2))
        go_loop [11] (fun i => ∃ k : Nat, k ≤ m0 ∧ i = .int .i64 (k : Int)) (fun i => m0 - (intOf i).toNat)
        case atStart => exact ⟨0, Nat.zero_le _, rfl⟩
        case round =>
          obtain ⟨k, hk, rfl⟩ := hrel
          by_cases hlt : k < m0
          · obtain ⟨b, off, ⟨xs, xk⟩, rfl, hb, hx, c0_, c1_⟩ := S.a.ccell hlt
            have i1 : (0 : Int) ≤ (k : Int) := by omega
            have i2 : (k : Int) < (m0 : Int) := by omega
            simp only at c0_ c1_
            have ht : (xs.toList == s.toList) = false := HNone.out k _ hx
            go_wp2
            go_round
            case rel => exact ⟨k + 1, by omega, by go_num⟩
            case measure => simp [intOf]; omega
          · obtain rfl : k = m0 := by omega
            have HCo := HCo
            by_cases hcv : colsV l = 0
            · rw [hcv] at HCo
              have HCo := Lib.hid HCo
              cases hfv : fitsL l r
              · rw [hfv] at HFi
                have HFi := Lib.hid HFi
                clear hcv hfv
                go_wp2_with (first | ((with_reducible refine (HCo.out _ S.a).mono ?_); rintro x w3 ⟨rfl, hE3⟩; replace S := S.ev hE3) | ((with_reducible refine (HFi.out _ S.a S.b).mono ?_); rintro x w4 ⟨rfl, hE4⟩; replace S := S.ev hE4) | ((with_reducible refine (HK.out _).mono ?_); rintro x w5 ⟨rfl, hE5⟩; replace S := S.ev hE5))
                go_ret
                exact ⟨rfl, S.all⟩
              · rw [hfv] at HFi
                have HFi := Lib.hid HFi
                have hrt := fits_right hcv hfv
                have hlr := fitsL_len l r hfv
                have hl1 := colsV_len hcv
                have hm1 : 0 < m1 := by rw [← HLr.out]; omega
                have HR := fun w1 (h : Vs w1 A1 m1 c1 r) => row_right w1 h
                rw [hrt] at HR
                have HR := Lib.hid HR
                have HRT := Lib.hid hrt
                have HFV := Lib.hid hfv
                clear hcv hfv hrt hlr hl1
                go_upto_if 94 with (first | ((with_reducible refine (HCo.out _ S.a).mono ?_); rintro x w3 ⟨rfl, hE3⟩; replace S := S.ev hE3) | ((with_reducible refine (HFi.out _ S.a S.b).mono ?_); rintro x w4 ⟨rfl, hE4⟩; replace S := S.ev hE4) | ((with_reducible refine (HR.out _ S.b).mono ?_); rintro x w5 ⟨rfl, hE5⟩; replace S := S.ev hE5))
                go_cut [3] (fun v wx => ∃ y : Nat, v = .int .i64 (y : Int) ∧ y ≤ 9223372036854775807 ∧ RfS w A0 k c0 l A1 m1 c1 r wx)
                case first =>
                  by_cases hneg : x3 < 0
                  · go_wp2_with fail
                    go_meet
                    exact ⟨(-(x3 + 1)).toNat, by congr 1; omega, by omega, S⟩
                  · go_wp2_with fail
                    go_meet
                    exact ⟨x3.toNat, by congr 1; omega, by omega, S⟩
                case rest =>
                  clear S
                  obtain ⟨y, rfl, hy, S⟩ := hcut
                  have HM := Lib.hid (made_vals wc)
                  go_upto_region 20 with (at_builtin; refine wpList_append_vals rfl (.tmp 98) (.tmp 99) rfl Try.underlying35 Try.infoVal (.slice (some ⟨wc.heap.size, 0, none⟩) 0 0) [] rfl HM.out A1 m1 c1 r rfl (S.b.ev (Ev.alloc _ _)) (by rw [HLr.out]; simp only [List.length_nil]; omega) ?_; intro v4 w4 hv4 hb4 hs4; have E4 : Ev wc w4 := Ev.rows (Ev.alloc wc _) (by simp [Value.ownBlock]) hb4; have hge := hs4.ge (w := wc) (by simp) (by simp [Value.ownBlock]); simp only [List.nil_append] at hv4; obtain ⟨g, cap, hve, hfz⟩ := Vrow.here hv4 (by rw [HLr.out]; exact hm1); rw [hve] at hv4 hge hs4; have hgw : wc.heap.size ≤ g := hge g rfl; have hgl := hv4.lt (g := g) rfl; subst hve; rw [HLr.out])
                  have q1 : y % m1 < m1 := Nat.mod_lt _ hm1
                  obtain ⟨q, hq⟩ : ∃ q, y % m1 = q := ⟨_, rfl⟩
                  have hqi : (y : Int) % (m1 : Int) = (q : Int) := by rw [← hq]; omega
                  have hqt : Int.tmod (y : Int) (m1 : Int) = (q : Int) := by rw [Int.tmod_eq_emod_of_nonneg (by omega)]; exact hqi
                  rw [hq] at q1
                  have S4 := S.ev E4
                  obtain ⟨A5, cap5, e5, hx5, _⟩ := hv4.vs
                  cases e5
                  rw [HLr.out] at hx5
                  obtain ⟨b9, off9, ⟨zk, zn, zs⟩, e9, _, hz, z0, z1, z2⟩ := hx5.vcell q1
                  cases e9
                  rw [Nat.zero_add] at z0 z1 z2
                  have i9 : (0 : Int) ≤ (q : Int) := by omega
                  have i10 : (q : Int) < (m1 : Int) := by omega
                  simp only at z0 z1 z2
                  have hzr : rightV zk zn zs = true := okR_at (rightR_ok HRT.out) hz
                  have hor := other_right hzr
                  have hzw : wrap64 (3 - zk) = 3 - zk := by
                    rcases right_kind hzr with ⟨rfl, _⟩ | ⟨rfl, _, _⟩ <;> (unfold wrap64; omega)
                  have f0 := hfz (q * 3)
                  have f1 := hfz (q * 3 + 1)
                  have f2 := hfz (q * 3 + 2)
                  have hql : q < r.length := by rw [HLr.out]; exact q1
                  have HNV : Hid (Vs (((w4.setCell ⟨g, q * 3, none⟩ (.int .i64 (3 - zk))).setCell ⟨g, q * 3 + 1, none⟩ (.int .i64 0)).setCell ⟨g, q * 3 + 2, none⟩ (.string ⟨#[]⟩)) (some ⟨g, 0, none⟩) r.length cap (r.set q (3 - zk, 0, ⟨#[]⟩))) := Lib.hid (hv4.set hql (3 - zk) 0 ⟨#[]⟩)
                  rw [HLr.out] at HNV
                  have HB4 : Hid (But [g] w4 (((w4.setCell ⟨g, q * 3, none⟩ (.int .i64 (3 - zk))).setCell ⟨g, q * 3 + 1, none⟩ (.int .i64 0)).setCell ⟨g, q * 3 + 2, none⟩ (.string ⟨#[]⟩))) := Lib.hid (((But.setCell ⟨g, q * 3, none⟩ _ (by simp)).then (But.setCell ⟨g, q * 3 + 1, none⟩ _ (by simp))).then (But.setCell ⟨g, q * 3 + 2, none⟩ _ (by simp)))
                  have HE5 := Lib.hid (But.new1 E4 hgw HB4.out)
                  have HFV2 : Hid (fitsL l (r.set q (3 - zk, 0, ⟨#[]⟩)) = false) := Lib.hid (fits_set HFV.out hz hor.2)
                  have HRT2 : Hid (rightR (r.set q (3 - zk, 0, ⟨#[]⟩)) = true) := Lib.hid (right_set HRT.out hor.1)
                  clear hor hzr hq q1 hv4 hb4 hs4 hge hx5 hz hql
                  go_upto_region 22 with fail
                  have HN5 := HNV.out
                  have E5 := HE5.out
                  clear HB4 HNV HE5 z0 z1 z2 f0 f1 f2 hfz
                  generalize (((w4.setCell ⟨g, q * 3, none⟩ (.int .i64 (3 - zk))).setCell ⟨g, q * 3 + 1, none⟩ (.int .i64 0)).setCell ⟨g, q * 3 + 2, none⟩ (.string ⟨#[]⟩)) = w5 at *
                  have S5 := S.ev E5
                  have HFx := fun w1 (h : Cs w1 A0 k c0 l) (h' : Vs w1 (some ⟨g, 0, none⟩) m1 cap (r.set q (3 - zk, 0, ⟨#[]⟩))) => row_fits w1 h h'
                  have HRx := fun w1 (h' : Vs w1 (some ⟨g, 0, none⟩) m1 cap (r.set q (3 - zk, 0, ⟨#[]⟩))) => row_right w1 h'
                  rw [HFV2.out] at HFx
                  rw [HRT2.out] at HRx
                  have HFx := Lib.hid HFx
                  have HRx := Lib.hid HRx
                  go_wp2_with (first | ((with_reducible refine (HFx.out _ S5.a HN5).mono ?_); rintro x w6 ⟨rfl, hE6⟩; have S6 := S5.ev hE6; have N6 := HN5.ev hE6) | ((with_reducible refine (HRx.out _ N6).mono ?_); rintro x w7 ⟨rfl, hE7⟩; have S7 := S6.ev hE7) | ((with_reducible refine (HK.out _).mono ?_); rintro x w8 ⟨rfl, hE8⟩))
                  go_ret
                  exact ⟨rfl, S7.all.trans hE8⟩
            · have HCo := Lib.hid HCo
              have hne1 : (colsV l != 0) = true := bne_iff_ne.2 hcv
              generalize colsV l = cv at *
              clear hcv HFi
              go_wp2_with (first | ((with_reducible refine (HCo.out _ S.a).mono ?_); rintro x w3 ⟨rfl, hE3⟩; replace S := S.ev hE3) | ((with_reducible refine (HK.out _).mono ?_); rintro x w5 ⟨rfl, hE5⟩; replace S := S.ev hE5))
              go_ret
              exact ⟨rfl, S.all⟩
end Go.Proofs.Ytkjodlngpdihhaa
