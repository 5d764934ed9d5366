/-
  Texts that belong together: slices.Grow and slices.Concat at sets; eval.step of a union.
-/
import Derived.Lib.AppendZerosOnto
import Derived.Test.YthpiobkghfdkkaaGreatZ42O
namespace Go.Proofs.YthpiobkghfdkkaaGreat
open Go.RowKit
set_option linter.unusedVariables false

theorem zeros_size (z : Array Value) (n : Nat) : (Builtin.zeroCells z n).size = n * z.size := by
  unfold Builtin.zeroCells
  simp

set_option maxRecDepth 100000 in
set_option maxHeartbeats 8000000 in
theorem items_grow (n : Nat) (w : World) (hn : n ≤ 1000000) :
    Calls Tryz.prog 73 #[.slice none 0 0, .int .i64 (n : Int)] w fun e w' => ∃ v, e = .returned v ∧ Ow 62 2 jcells w.heap.size w' v ([] : List J) ∧ Ev w w' := by
  have h1 : ¬ ((n : Int) < 0) := by omega
  go_enter Tryz.func73, Tryz.ntmps73
  by_cases h0 : n = 0
  · subst h0
    go_wp2
    go_ret
    exact ⟨_, rfl, Ow.nil_ _, Ev.refl _⟩
  · obtain ⟨i0, hi0, hz0, hs0, hb0⟩ := info_parts Tryz.infoItem
    have hpos : 0 < n := by omega
    have hfit : Builtin.nextslicecap (0 + n) 0 * i0.bytes ≤ 281474976710656 := growslice_fits (by omega) (by rw [hb0]; omega)
    obtain ⟨G, hG⟩ : ∃ G, G = grownCap w n 0 62 := ⟨_, rfl⟩
    have hGn : n ≤ G := by rw [hG]; exact grownCap_ge w _ _ _
    have hGm : G ≤ maxLen := by rw [hG]; exact grownCap_le_maxLen w n 0 _ (by unfold maxLen; omega)
    have hG63 : G ≤ 9223372036854775807 := by simpa [maxLen] using hGm
    have hrz : ∀ ty, (Builtin.append_ #[41, 3] ty #[.slice none 0 0, .int .i64 (n : Int)]).run Tryz.prog w = .ok (.slice (some ⟨w.heap.size, 0, none⟩) n G) (w.drew.alloc (.cells (Builtin.zeroCells #[.slice none 0 0, .complex .f64 0 0] n ++ Builtin.zeroCells #[.slice none 0 0, .complex .f64 0 0] (G - n)) 62)) := fun ty => by
      have h := Lib.run_append_grow_zeros (P := Tryz.prog) w 41 3 ty 62 i0 _ .i64 .i64 Tryz.underlying41 Tryz.underlying3 hi0 hz0 none 0 0 [] (run_firstCells_none w.drew i0.size 0 0 0) n hpos (by omega) (by omega) (by omega) (by rw [hb0]; omega) hfit
      simp only [Nat.zero_add] at h
      rw [h, hG]
      simp [Value.cells]
    have HO : Hid (Ow 62 2 jcells w.heap.size (w.drew.alloc (.cells (Builtin.zeroCells #[.slice none 0 0, .complex .f64 0 0] n ++ Builtin.zeroCells #[.slice none 0 0, .complex .f64 0 0] (G - n)) 62)) (.slice (some ⟨w.heap.size, 0, none⟩) 0 G) ([] : List J)) := Lib.hid ⟨rfl, .inr ⟨w.heap.size, G, _, rfl, Nat.le_refl _, heap_alloc_new w.drew _, Nat.zero_le _, hGm, by
      rw [Array.size_append, zeros_size, zeros_size]
      show n * 2 + (G - n) * 2 = G * 2
      omega, by simp [cl]⟩⟩
    clear hfit hi0 hz0 hs0 hb0 hG hGm
    go_wp2_with (at_builtin; refine Lib.wpList_append_run _ rfl _ _ _ _ rfl _ _ rfl rfl _ _ (hrz _) ?_)
    go_ret
    exact ⟨_, rfl, HO.out, (Ev.drew _).trans (Ev.alloc _ _)⟩
/-- Sets in a slice. -/
structure SsAt (w : World) (A : Option Addr) (n cap : Nat) (L : List (Sle J)) : Prop where
  sl : Sl 1 gcs w A n cap L
  each : ∀ x ∈ L, Zs w.heap.size w x.A x.l.length x.cap x.l
theorem SsAt.ev {w w' : World} {A : Option Addr} {n cap : Nat} {L : List (Sle J)} (h : SsAt w A n cap L) (hE : Ev w w') : SsAt w' A n cap L := ⟨h.sl.ev hE, fun x hx => ((h.each x hx).ev hE).wide hE.size (Nat.le_refl _)⟩
theorem sum_take {α : Type} (f : α → Nat) {l : List α} {k : Nat} {x : α} (h : l[k]? = some x) : ((l.take (k + 1)).map f).sum = ((l.take k).map f).sum + f x := by
  obtain ⟨hk, rfl⟩ := List.getElem?_eq_some_iff.1 h
  rw [List.take_succ_eq_append_getElem hk, List.map_append, List.sum_append]
  simp
theorem sum_take_le {α : Type} (f : α → Nat) (l : List α) (k : Nat) : ((l.take k).map f).sum ≤ (l.map f).sum := by
  conv => rhs; rw [← List.take_append_drop k l, List.map_append, List.sum_append]
  omega
theorem flat_takeJ {α β : Type} (f : α → List β) {l : List α} {k : Nat} {x : α} (h : l[k]? = some x) : (l.take (k + 1)).flatMap f = (l.take k).flatMap f ++ f x := by
  obtain ⟨hk, rfl⟩ := List.getElem?_eq_some_iff.1 h
  rw [List.take_succ_eq_append_getElem hk, List.flatMap_append]
  simp
theorem flat_len {α β : Type} (f : α → List β) : ∀ l : List α, (l.flatMap f).length = (l.map fun x => (f x).length).sum
  | [] => rfl
  | x :: l => by rw [List.flatMap_cons, List.length_append, flat_len f l, List.map_cons, List.sum_cons]

set_option maxRecDepth 100000 in
set_option maxHeartbeats 8000000 in
theorem items_concat {A : Option Addr} {n cap : Nat} {L : List (Sle J)} (w : World) (h : SsAt w A n cap L) (ht : (L.map fun x => x.l.length).sum ≤ 1000000) (hn : n ≤ 1000) :
    Calls Tryz.prog 37 #[.slice A n cap] w fun e w' => ∃ A' n' c', e = .returned (.slice A' n' c') ∧ SetIn (itemsOf (L.flatMap Sle.l)) w' A' n' c' ∧ Ev w w' := by
  have hcl := h.sl.le
  have hcm := h.sl.max
  have HN := Lib.hid h.sl.len
  have HT := Lib.hid ht
  have H := Lib.hid h
  clear h ht
  go_enter Tryz.func37, Tryz.ntmps37
  go_wp2
  go_loopw [3, 11] (fun sv iv wr => ∃ k : Nat, sv = .int .i64 ((((L.take k).map fun x => x.l.length).sum : Nat) : Int) ∧ iv = .int .i64 (k : Int) ∧ k ≤ n ∧ Hid (Ev w wr)) (fun _ iv _ => n - (intOf iv).toNat)
  case atStart => exact ⟨0, rfl, rfl, Nat.zero_le _, Lib.hid (Ev.refl _)⟩
  case round =>
    obtain ⟨k, rfl, rfl, hk, HE⟩ := hrel
    have hs := sum_take_le (fun x : Sle J => x.l.length) L k
    have ht := HT.out
    by_cases hlt : k < n
    · obtain ⟨x, hx⟩ := H.out.sl.at hlt
      obtain ⟨b, off, rfl, hb, hc⟩ := (H.out.ev HE.out).sl.rd (by omega)
      have c0 := hc k x hx 0 _ rfl
      simp only [Nat.mul_one, Nat.add_zero] at c0
      have HF := Lib.hid (sum_take (fun x : Sle J => x.l.length) hx)
      have hs2 := sum_take_le (fun x : Sle J => x.l.length) L (k + 1)
      rw [HF.out] at hs2
      have i1 : (0 : Int) ≤ (k : Int) := by omega
      have i2 : (k : Int) < (n : Int) := by omega
      have i4 : ((L.take k).map fun x => x.l.length).sum + x.l.length ≤ 1000000 := by omega
      clear hx hc hs hs2 ht
      generalize ((L.take k).map fun x => x.l.length).sum = s0 at *
      have i3 : ¬ ((s0 : Int) + (x.l.length : Int) < 0) := by omega
      go_wp2
      go_roundw
      case rel => exact ⟨k + 1, by rw [HF.out]; go_num, by go_num, by omega, HE⟩
      case measure => simp [intOf]; omega
    · obtain rfl : k = n := by omega
      have HK : Hid (L.take k = L) := Lib.hid (List.take_of_length_le (by rw [HN.out]; exact Nat.le_refl _))
      rw [HK.out]
      have HG := Lib.hid (items_grow (L.map fun x => x.l.length).sum wr (by omega))
      have HTS : Hid ((L.flatMap Sle.l).length = (L.map fun x => x.l.length).sum) := Lib.hid (flat_len Sle.l L)
      generalize hs2 : (L.map fun x => x.l.length).sum = s2 at *
      clear hs hs2
      have hs3 : s2 ≤ 1000000 := ht
      go_upto_region 10 with (first
        | ((with_reducible refine (HG.out).mono ?_); rintro r w1 ⟨v, rfl, hO, hE1⟩; obtain ⟨A1, c1, rfl, _, _⟩ := hO.form encJ; have HO1 := Lib.hid hO; have E1 := Lib.hid (HE.out.trans hE1); have F1 := Lib.hid hE1; clear hO hE1))
      go_wp2
      go_loopw [6, 27] (fun zv iv wq => ∃ (ZA : Option Addr) (zn zc k2 : Nat), zv = .slice ZA zn zc ∧ iv = .int .i64 (k2 : Int) ∧ k2 ≤ k ∧ Hid (Ow 62 2 jcells wr.heap.size wq (.slice ZA zn zc) ((L.take k2).flatMap Sle.l)) ∧ Hid (Ev wr wq)) (fun _ iv _ => k - (intOf iv).toNat)
      case atStart => exact ⟨A1, 0, c1, 0, rfl, rfl, Nat.zero_le _, HO1, F1⟩
      case round =>
        rename World => ws
        obtain ⟨ZA, zn, zc, k2, rfl, rfl, hk2, HO, HEq⟩ := hrel
        by_cases hlt2 : k2 < k
        · obtain ⟨x, hx⟩ := H.out.sl.at hlt2
          have HM := Lib.hid (List.mem_of_getElem? hx)
          obtain ⟨b, off, rfl, hb, hc⟩ := (H.out.ev (HE.out.trans HEq.out)).sl.rd (by omega)
          have c0 := hc k2 x hx 0 _ rfl
          simp only [Nat.mul_one, Nat.add_zero] at c0
          have HF := Lib.hid (flat_takeJ Sle.l hx)
          have HX := Lib.hid (((H.out.ev (HE.out.trans HEq.out)).each x (List.mem_of_getElem? hx)).js)
          have HL : Hid (((L.take k2).flatMap Sle.l).length + x.l.length ≤ 1000000) := Lib.hid (by
            have h5 := congrArg List.length HF.out
            rw [List.length_append] at h5
            have h6 : ((L.take (k2 + 1)).flatMap Sle.l).length ≤ (L.flatMap Sle.l).length := by
              rw [flat_len, flat_len]
              exact sum_take_le _ _ _
            have h7 := HTS.out
            omega)
          have i1 : (0 : Int) ≤ (k2 : Int) := by omega
          have i2 : (k2 : Int) < (k : Int) := by omega
          clear hx hc
          go_wp2_with (first
            | ((show wpList _ _ _ (⟨some 33, _, _, _, _, _⟩ :: _) _ _); refine wpList_append_ow (o := ⟨some 33, _, _, _, _, _⟩) rfl 41 (.tmp 31) (.tmp 32) rfl encJ Tryz.underlying41 Tryz.infoItem rfl rfl HO.out x.A x.l.length x.cap x.l rfl HX.out (by have := HL.out; omega) (by have := HL.out; omega) HEq.out.size ?_; intro v2 w2 hA2; have E2 : Ev wr w2 := ((But.of_ev HEq.out).then hA2.2.1).ev (fun k hk => (HO.out.lt (mem_foot.1 hk)).1); obtain ⟨A2, c2, rfl, _, _⟩ := hA2.1.form encJ; have HO2 := Lib.hid hA2.1; have E2 := Lib.hid E2; clear hA2; generalize ((L.take k2).flatMap Sle.l ++ x.l).length = zn2 at *))
          go_roundw
          case rel => exact ⟨A2, zn2, c2, k2 + 1, rfl, by go_num, by omega, Lib.hid (by rw [HF.out]; exact HO2.out), E2⟩
          case measure => simp [intOf]; omega
        · obtain rfl : k2 = k := by omega
          go_wp2
          go_ret
          have h8 := HO.out
          rw [HK.out] at h8
          obtain ⟨A9, c9, hv, hSl, _⟩ := h8.form encJ
          injection hv with e1 e2 e3
          subst e1; subst e2; subst e3
          refine ⟨_, _, _, rfl, ⟨_, ⟨hSl, fun z hz => ?_, ?_, Nat.le_refl _⟩, rfl⟩, HE.out.trans HEq.out⟩
          · obtain ⟨x, hx, hzx⟩ := List.mem_flatMap.1 hz
            exact ((H.out.ev (HE.out.trans HEq.out)).each x hx).rows z hzx
          · rintro ad rfl
            exact (h8.lt rfl).2
end Go.Proofs.YthpiobkghfdkkaaGreat
