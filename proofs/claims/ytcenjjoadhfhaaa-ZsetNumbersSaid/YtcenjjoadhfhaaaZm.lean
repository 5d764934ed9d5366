/-
  The contract of package zset: Make.
-/
import Derived.Test.YtcenjjoadhfhaaaZg
namespace Go.Proofs.Ytcenjjoadhfhaaa
open Go.RowKit
set_option linter.unusedVariables false

/-- What Make answers. -/
def MakeRes (res : Option (List I)) (e : Ending) (w' : World) : Prop :=
  match res with
  | none => e = .returned (.tuple #[.slice none 0 0, .int .i64 27])
  | some s => ∃ A' cap' Z', e = .returned (.tuple #[.slice A' s.length cap', .int .i64 0]) ∧ Zs w'.heap.size w' A' s.length cap' Z' ∧ itemsOf Z' = s
def MakeOut (Z : List J) (e : Ending) (w' : World) : Prop :=
  (Z.any wrongJ = true ∧ e = .returned (.tuple #[.slice none 0 0, .int .i64 1])) ∨ (Z.any wrongJ = false ∧ MakeRes (makeF (itemsOf Z)) e w')

/-- How far Make has come: S is made, Z1 is left. -/
structure Making (w : World) (b1 : Nat) (L : List I) (N : Nat) (v : Value) (S : List J) (A1 : Option Addr) (n1 c1 : Nat) (Z1 : List J) (wr : World) : Prop where
  own : Zrow wr v S
  rest : Zs b1 wr A1 n1 c1 Z1
  right : AllRight keyJ Z1
  parts : AllParts Z1
  eq : groupF L.length L = (groupF (itemsOf Z1).length (itemsOf Z1)).map fun s => itemsOf S ++ s
  ev : Ev w wr
  high : ∀ g, v.ownBlock = some g → b1 ≤ g
  base : w.heap.size ≤ b1
  size : S.length + n1 ≤ N
theorem Making.cons {Z1 : List J} (h : 0 < Z1.length) : ∃ x l, itemsOf Z1 = x :: l := by
  cases Z1 with
  | nil => simp at h
  | cons z Z => exact ⟨_, _, rfl⟩
/-- The end of a round. -/
theorem Making.drop {w : World} {b1 : Nat} {L : List I} {N : Nat} {v : Value} {S : List J} {A1 : Option Addr} {n1 c1 : Nat} {Z1 : List J} {wr w' : World} (h : Making w b1 L N v S A1 n1 c1 Z1 wr) (hB : Below b1 wr w') {k : Nat} (hk : k ≤ n1) {Sn : List J} {vn : Value} (hown : Zrow w' vn Sn) (hhigh : ∀ g, vn.ownBlock = some g → b1 ≤ g)
    (heq : groupF L.length L = (groupF (itemsOf (Z1.drop k)).length (itemsOf (Z1.drop k))).map fun s => itemsOf Sn ++ s) (hsz : Sn.length + (n1 - k) ≤ N) :
    Making w b1 L N vn Sn (fromS 2 A1 c1 k) (n1 - k) (c1 - k) (Z1.drop k) w' :=
  ⟨hown, (h.rest.below hB).from_ hk, h.right.drop k, fun z hz => h.parts z (List.mem_of_mem_drop hz), heq, Below.trans h.ev (Below.mono hB h.base), hhigh, h.base, hsz⟩
theorem Making.up {w : World} {b1 : Nat} {L : List I} {N : Nat} {v : Value} {S : List J} {A1 : Option Addr} {n1 c1 : Nat} {Z1 : List J} {wr w' : World} (h : Making w b1 L N v S A1 n1 c1 Z1 wr) (hE : Ev wr w') : Below b1 wr w' := Below.mono hE h.rest.base
/-- The item that is put lies where the own slice does not. -/
theorem Making.item {w : World} {b1 : Nat} {L : List I} {N : Nat} {v : Value} {S : List J} {A1 : Option Addr} {n1 c1 : Nat} {Z1 : List J} {wr w4 w5 : World} (h : Making w b1 L N v S A1 n1 c1 Z1 wr) (hE4 : Ev wr w4) (hE5 : Ev w4 w5) {A' : Option Addr} {n' cap' : Nat} {r : List V} (hV : Vs w5 A' n' cap' r) (hN : New w4 w5 A') (p q : Int) (o : Obj) :
    ∀ x ∈ [(((A', n', cap'), (r, p, q)) : J)], Vs (w5.alloc o) x.1.1 x.1.2.1 x.1.2.2 x.2.1 ∧ ∀ ad, x.1.1 = some ad → ad.block < (w5.alloc o).heap.size ∧ v.ownBlock ≠ some ad.block := fun x hx => by
  rw [List.mem_singleton.1 hx]
  refine ⟨hV.ev (Ev.alloc _ _), fun ad e => ⟨Nat.lt_of_lt_of_le (hN ad e).2 (Ev.alloc w5 o).size, fun e' => ?_⟩⟩
  have h1 := h.own.lt e'
  have h2 := (hN ad e).1
  have h3 := hE4.size
  omega
/-- A round that keeps its row. -/
theorem Making.put {w : World} {b1 : Nat} {L : List I} {N : Nat} {v : Value} {S : List J} {A1 : Option Addr} {n1 c1 : Nat} {Z1 : List J} {wr w5 w6 : World} (h : Making w b1 L N v S A1 n1 c1 Z1 wr) (hE : Ev wr w5) (hB : But (foot v) w5 w6) {vn : Value} (hs : Sprung w5 v vn) : Below b1 wr w6 ∧ ∀ g, vn.ownBlock = some g → b1 ≤ g := by
  have h5 : b1 ≤ w5.heap.size := Nat.le_trans h.rest.base hE.size
  refine ⟨Below.trans (h.up hE) (hB.below h5 fun k hk => h.high k (mem_foot.1 hk)), fun g hg => ?_⟩
  rcases hs g hg with h1 | h1
  · exact h.high g h1
  · exact Nat.le_trans h5 h1
theorem Making.fail {w : World} {b1 : Nat} {L : List I} {N : Nat} {v : Value} {S : List J} {A1 : Option Addr} {n1 c1 : Nat} {Z1 : List J} {wr : World} (h : Making w b1 L N v S A1 n1 c1 Z1 wr) (h0 : 0 < n1) {k : Nat} (hk : Reps Z1 k) (hs : sumN 0 (itemsOf (Z1.take k)) = none) : groupF L.length L = none := by
  obtain ⟨x, l, e⟩ := Making.cons (Z1 := Z1) (by rw [h.rest.len]; exact h0)
  have hkr := hk.eq h.right
  rw [h.eq, e, groupF_step]
  rw [itemsOf_take, e] at hs
  rw [e] at hkr
  rw [← hkr, hs]
  rfl
theorem Making.step {w : World} {b1 : Nat} {L : List I} {N : Nat} {v : Value} {S : List J} {A1 : Option Addr} {n1 c1 : Nat} {Z1 : List J} {wr : World} (h : Making w b1 L N v S A1 n1 c1 Z1 wr) (h0 : 0 < n1) {k : Nat} (hk : Reps Z1 k) {m : Int} (hs : sumN 0 (itemsOf (Z1.take k)) = some m) {z : J} (hz : Z1[0]? = some z) (Sn : List J)
    (hSn : itemsOf Sn = itemsOf S ++ (if m = 0 then [] else [(z.2.1, redP m, redQ m)])) : groupF L.length L = (groupF (itemsOf (Z1.drop k)).length (itemsOf (Z1.drop k))).map fun s => itemsOf Sn ++ s := by
  obtain ⟨x, l, e⟩ := Making.cons (Z1 := Z1) (by rw [h.rest.len]; exact h0)
  have hx : x = z.2 := by
    cases Z1 with
    | nil => simp at hz
    | cons z' Z =>
      simp at hz
      subst hz
      exact (List.cons.inj e).1.symm
  have hkr := hk.eq h.right
  rw [h.eq, e, groupF_step]
  rw [itemsOf_take, e] at hs
  rw [e] at hkr
  rw [← hkr, hs, itemsOf_drop, e]
  simp only
  rw [Option.map_map, hSn]
  congr 1
  funext s
  simp only [Function.comp]
  by_cases hm : m = 0
  · rw [if_pos hm, if_pos hm, List.append_nil]
  · rw [if_neg hm, if_neg hm, hx, List.append_assoc]
    rfl
theorem order_tv {m : Int} (h : okNet m = true) : (m = 0 ∧ FloatKind.f64.format.order (fl (redP m)) 0 = some .eq ∧ FloatKind.f64.format.order (fl (redQ m)) 0 = some .eq) ∨ (m ≠ 0 ∧ FloatKind.f64.format.order (fl (redP m)) 0 = some .gt) ∨ (m ≠ 0 ∧ FloatKind.f64.format.order (fl (redP m)) 0 = some .eq ∧ FloatKind.f64.format.order (fl (redQ m)) 0 = some .gt) := by
  have o1 := order_zero (redP_part h)
  have o2 := order_zero (redQ_part h)
  rcases Int.lt_trichotomy m 0 with h1 | h1 | h1
  · rw [if_pos (by unfold redP; omega)] at o1
    rw [if_neg (by unfold redQ; omega)] at o2
    exact .inr (.inr ⟨by omega, o1, o2⟩)
  · rw [if_pos (by unfold redP; omega)] at o1
    rw [if_pos (by unfold redQ; omega)] at o2
    exact .inl ⟨h1, o1, o2⟩
  · rw [if_neg (by unfold redP; omega)] at o1
    exact .inr (.inl ⟨by omega, o1⟩)

set_option maxRecDepth 100000 in
set_option maxHeartbeats 8000000 in
theorem zset_make {A : Option Addr} {n cap : Nat} {Z : List J} (w : World) (h : Zs w.heap.size w A n cap Z) (hsz : n ≤ 1000000000000) (ht : TalliesAs Z) :
    Calls Try.prog 4 #[.slice A n cap] w fun e w' => MakeOut Z e w' ∧ Ev w w' := by
  have HCF := Lib.hid (slices_containsFunc w h ht)
  cases hwr : Z.any wrongJ
  case true =>
    rw [hwr] at HCF
    have HWR := Lib.hid hwr
    clear hwr
    go_enter Try.func4, Try.ntmps4
    go_wp2_with (first | ((with_reducible refine HCF.out.mono ?_); rintro e w1 ⟨rfl, hE1⟩))
    go_ret2
    exact ⟨.inl ⟨HWR.out, rfl⟩, hE1⟩
  case false =>
    rw [hwr] at HCF
    obtain ⟨hr, hp⟩ := wrong_not hwr
    have HOR := Lib.hid (fun w1 (h1 : Ev w w1) => zset_ordered w1 ((h.ev h1).wide h1.size (Nat.le_refl _)) hsz hr)
    obtain ⟨res, hres⟩ : ∃ res, makeF (itemsOf Z) = res := ⟨_, rfl⟩
    refine Calls.mono (R := fun e w' => MakeRes res e w' ∧ Ev w w') ?_ (fun e w' ⟨h1, h2⟩ => ⟨.inr ⟨hwr, hres ▸ h1⟩, h2⟩)
    have HST : ∀ (w1 w2 : World) (A1 : Option Addr) (c1 : Nat) (Z1 : List J), Ev w w1 → Ev w1 w2 → Zs w2.heap.size w2 A1 n c1 Z1 → Alike keyJ Z1 Z → Rises keyJ Z1 → Making w w2.heap.size (sortF keyI (itemsOf Z)) n (.slice none 0 0) [] A1 n c1 Z1 w2 := fun w1 w2 A1 c1 Z1 h1 h2 hz ha hs =>
      ⟨Zrow.nil_ _, hz, ha.symm.right hr, fun z hz' => hp z (ha.mem hz'), by rw [sorted_items hr ha hs]; exact Option.map_id'.symm, h1.trans h2, fun g e => (by cases e), (h1.trans h2).size, by simp⟩
    have HST := Lib.hid HST
    have HRES : Hid (groupF (sortF keyI (itemsOf Z)).length (sortF keyI (itemsOf Z)) = res) := Lib.hid (by
      rw [← hres]
      unfold makeF
      refine groupF_fuel _ _ _ (Nat.le_refl _) ?_
      have := (sortF_alike (key := keyI) (itemsOf Z)).length
      rw [this]; exact Nat.le_refl _)
    generalize sortF keyI (itemsOf Z) = L at *
    clear hr hp ht hwr hres h
    go_enter Try.func4, Try.ntmps4
    go_wp2_with (first | ((with_reducible refine HCF.out.mono ?_); rintro e w1 ⟨rfl, hE1⟩) | ((with_reducible refine (HOR.out _ hE1).mono ?_); rintro e w2 ⟨A1, c1, Z1, rfl, hz1, ha1, hs1, hE2⟩; have HS1 := Lib.hid (HST.out w1 w2 A1 c1 Z1 hE1 hE2 hz1 ha1 hs1); obtain ⟨b1, hb1⟩ : ∃ b1, b1 = w2.heap.size := ⟨_, rfl⟩; rw [← hb1] at HS1; clear hz1 ha1 hs1 hb1))
    go_loopw [0, 4] (fun zv sv wr => ∃ S A1 n1 c1 Z1, zv = .slice A1 n1 c1 ∧ Hid (Making w b1 L n sv S A1 n1 c1 Z1 wr)) (fun zv _ _ => slen zv)
    case atStart => exact ⟨[], A1, n, c1, Z1, rfl, HS1⟩
    case round =>
      clear HS1 hE1 hE2
      obtain ⟨S, A1, n1, c1, Z1, rfl, HM⟩ := hrel
      obtain ⟨sv, hsv⟩ : ∃ sv, sv = u4 := ⟨_, rfl⟩
      rw [← hsv] at HM ⊢
      clear hsv
      have hn1 := HM.out.rest.le
      have hc1 := HM.out.rest.max
      have hN := HM.out.size
      by_cases k0 : 0 < n1
      · have i1 : (0 : Int) < (n1 : Int) := by omega
        have HR := Lib.hid (zset_repeats wr HM.out.rest k0 HM.out.right)
        go_upto_region 7 with (first | ((with_reducible refine HR.out.mono ?_); rintro e w3 ⟨⟨k, rfl, hk⟩, hE3⟩))
        have j1 : k ≤ n1 := by rw [← HM.out.rest.len]; exact hk.le
        have j2 : 1 ≤ k := hk.pos
        have HK := Lib.hid hk
        clear hk
        have i2 : (0 : Int) ≤ (k : Int) := by omega
        have i3 : (k : Int) ≤ (c1 : Int) := by omega
        have i4 : (k : Int) ≤ (n1 : Int) := by omega
        have hA := zset_add w3 ((HM.out.rest.ev hE3).to k j1) (fun z hz => HM.out.parts z (List.mem_of_mem_take hz))
        cases hs : sumN 0 (itemsOf (Z1.take k)) with
        | none =>
          have HF := Lib.hid (HM.out.fail k0 HK.out hs)
          rw [hs] at hA
          replace hA : Hid (Calls Try.prog 18 #[.slice A1 k c1] w3 fun e w' => e = .returned (.tuple #[.complex .f64 0 0, .bool false]) ∧ Ev w3 w') := Lib.hid hA
          clear hs
          go_wp2_with (first | ((with_reducible refine hA.out.mono ?_); rintro e w4 ⟨rfl, hE4⟩))
          go_ret2
          rw [← HRES.out, HF.out]
          exact ⟨rfl, (HM.out.ev.trans hE3).trans hE4⟩
        | some m =>
          have HOK := Lib.hid (sumN_ok _ 0 m (by decide) hs)
          rw [hs] at hA
          replace hA : Hid (Calls Try.prog 18 #[.slice A1 k c1] w3 fun e w' => e = .returned (.tuple #[.complex .f64 (fl (redP m)) (fl (redQ m)), .bool true]) ∧ Ev w3 w') := Lib.hid hA
          have HSM := Lib.hid hs
          clear hs
          obtain ⟨A3, hA3⟩ : ∃ A3, fromS 2 A1 c1 k = A3 := ⟨_, rfl⟩
          have HA3 := Lib.hid hA3
          unfold fromS at hA3
          obtain ⟨b, off, z, hAz, hb, _, hz, c0, _, hv⟩ := HM.out.rest.at k0
          rw [Nat.zero_mul, Nat.add_zero] at c0
          have HZ := Lib.hid hz
          have hrz := HM.out.right z (List.mem_of_getElem? hz)
          have hzl : 1 ≤ z.2.1.length ∧ z.2.1.length ≤ 6 := rightR_len hrz
          have hvl := hv.len
          have HV := Lib.hid hv
          clear hz hv
          rcases order_tv HOK.out with ⟨hm, o1, o2⟩ | ⟨hm, o1⟩ | ⟨hm, o1, o2⟩
          · generalize hPP : redP m = pp at *
            generalize hQQ : redQ m = qq at *
            clear c0 hAz
            go_wp2_with (first | ((with_reducible refine hA.out.mono ?_); rintro e w4 ⟨rfl, hE4⟩))
            go_roundw
            case rel =>
              have hd := HM.out.drop (HM.out.up (hE3.trans hE4)) j1 (HM.out.own.ev (hE3.trans hE4)) HM.out.high (HM.out.step k0 HK.out HSM.out HZ.out S (by rw [if_pos hm, List.append_nil])) (by omega)
              rw [HA3.out] at hd
              exact ⟨S, A3, _, _, _, rfl, Lib.hid hd⟩
            case measure => simp [slen]; omega
          · have hE34 : ∀ w4, Ev w3 w4 → Ev wr w4 := fun w4 h4 => hE3.trans h4
            have HB : Hid ((S.length + 1) * 40 ≤ 140737488355328) := Lib.hid (by omega)
            have HCL := Lib.hid (fun w5 (h5 : Ev wr w5) => row_clone w5 (HV.out.ev h5) (by omega) (by omega))
            subst hAz
            rw [Option.map_some, Addr.add_lit] at hA3
            have c0r : wr.cell? ⟨b, off, none⟩ = some (.slice z.1.1 z.1.2.1 z.1.2.2) := c0
            have HM_ := Lib.hid hm
            clear c0 hm
            have j3 : ¬ n1 = 0 := by omega
            go_wp2_with (first | ((with_reducible refine hA.out.mono ?_); rintro e w4 ⟨rfl, hE4⟩; have c4 := ((hE34 _ hE4).cell (p := ⟨b, off, none⟩) hb).trans c0r; clear c0r) | ((with_reducible refine (HCL.out _ (hE34 _ hE4)).mono ?_); rintro e w5 ⟨A', cap', rfl, hV', hN', hE5⟩; have hZo := (HM.out.own.ev ((hE34 _ hE4).trans hE5)).ev (Ev.alloc w5 (.cells #[.slice A' z.1.2.1 cap', .complex .f64 (fl (redP m)) (fl (redQ m))] 31)); have hRo := HM.out.item (hE34 _ hE4) hE5 hV' hN' (redP m) (redQ m) (.cells #[.slice A' z.1.2.1 cap', .complex .f64 (fl (redP m)) (fl (redQ m))] 31)) | (at_builtin; refine wpList_append_items rfl 24 (.tmp 28) (.tmp 36) rfl Try.underlying24 Try.infoItem sv S rfl hZo (some ⟨w5.heap.size, 0, none⟩) 1 1 [((A', z.1.2.1, cap'), (z.2.1, redP m, redQ m))] rfl (Js.one w5 ((A', z.1.2.1, cap'), (z.2.1, redP m, redQ m))) hRo HB.out ?_; intro v6 w6 hz6 hb6 hs6))
            go_roundw
            case rel =>
              have hpt := HM.out.put (((hE34 _ hE4).trans hE5).trans (Ev.alloc _ _)) hb6 hs6
              have hd := HM.out.drop hpt.1 j1 hz6 hpt.2 (HM.out.step k0 HK.out HSM.out HZ.out _ (by unfold itemsOf; rw [List.map_append, if_neg HM_.out]; rfl)) (by simp; omega)
              rw [HA3.out] at hd
              exact ⟨_, A3, _, _, _, rfl, Lib.hid hd⟩
            case measure => simp [slen]; omega
          · have hE34 : ∀ w4, Ev w3 w4 → Ev wr w4 := fun w4 h4 => hE3.trans h4
            have HB : Hid ((S.length + 1) * 40 ≤ 140737488355328) := Lib.hid (by omega)
            have HCL := Lib.hid (fun w5 (h5 : Ev wr w5) => row_clone w5 (HV.out.ev h5) (by omega) (by omega))
            subst hAz
            rw [Option.map_some, Addr.add_lit] at hA3
            have c0r : wr.cell? ⟨b, off, none⟩ = some (.slice z.1.1 z.1.2.1 z.1.2.2) := c0
            have HM_ := Lib.hid hm
            clear c0 hm
            have j3 : ¬ n1 = 0 := by omega
            go_wp2_with (first | ((with_reducible refine hA.out.mono ?_); rintro e w4 ⟨rfl, hE4⟩; have c4 := ((hE34 _ hE4).cell (p := ⟨b, off, none⟩) hb).trans c0r; clear c0r) | ((with_reducible refine (HCL.out _ (hE34 _ hE4)).mono ?_); rintro e w5 ⟨A', cap', rfl, hV', hN', hE5⟩; have hZo := (HM.out.own.ev ((hE34 _ hE4).trans hE5)).ev (Ev.alloc w5 (.cells #[.slice A' z.1.2.1 cap', .complex .f64 (fl (redP m)) (fl (redQ m))] 31)); have hRo := HM.out.item (hE34 _ hE4) hE5 hV' hN' (redP m) (redQ m) (.cells #[.slice A' z.1.2.1 cap', .complex .f64 (fl (redP m)) (fl (redQ m))] 31)) | (at_builtin; refine wpList_append_items rfl 24 (.tmp 28) (.tmp 36) rfl Try.underlying24 Try.infoItem sv S rfl hZo (some ⟨w5.heap.size, 0, none⟩) 1 1 [((A', z.1.2.1, cap'), (z.2.1, redP m, redQ m))] rfl (Js.one w5 ((A', z.1.2.1, cap'), (z.2.1, redP m, redQ m))) hRo HB.out ?_; intro v6 w6 hz6 hb6 hs6))
            go_roundw
            case rel =>
              have hpt := HM.out.put (((hE34 _ hE4).trans hE5).trans (Ev.alloc _ _)) hb6 hs6
              have hd := HM.out.drop hpt.1 j1 hz6 hpt.2 (HM.out.step k0 HK.out HSM.out HZ.out _ (by unfold itemsOf; rw [List.map_append, if_neg HM_.out]; rfl)) (by simp; omega)
              rw [HA3.out] at hd
              exact ⟨_, A3, _, _, _, rfl, Lib.hid hd⟩
            case measure => simp [slen]; omega
      · have i1 : ¬ (0 : Int) < (n1 : Int) := by omega
        go_wp2
        go_ret2
        have hZ1 : Z1 = [] := List.eq_nil_of_length_eq_zero (by rw [HM.out.rest.len]; omega)
        have heq := HM.out.eq
        rw [hZ1, HRES.out] at heq
        obtain ⟨A', cap', hv, hzs, _⟩ := HM.out.own.form
        have hln : (itemsOf S).length = S.length := itemsOf_length S
        rw [heq]
        refine ⟨⟨A', cap', S, ?_, ?_, ?_⟩, HM.out.ev⟩
        · show Ending.returned (.tuple #[sv, .int .i64 0]) = Ending.returned (.tuple #[.slice A' (itemsOf S ++ []).length cap', .int .i64 0])
          rw [List.append_nil, hln, hv]
        · show Zs wr.heap.size wr A' (itemsOf S ++ []).length cap' S
          rw [List.append_nil, hln]; exact hzs
        · exact (List.append_nil (itemsOf S)).symm
end Go.Proofs.Ytcenjjoadhfhaaa
