/-
  Texts that belong together: Package plan: what the parts of a plan's tree are: atoms, names, columns, aggregates. Package plan: has a tree the form of a plan?
-/
import Derived.BigQuiet
import Derived.Test.YtojbahjebfcmgaaGreatDoorZ27W
import Derived.Test.YtojbahjebfcmgaaGreatDoorZ13W
namespace Go.Proofs.YtojbahjebfcmgaaGreatDoor
open Go.RowKit
set_option linter.unusedVariables false

theorem at_m (L : List M) (i : Nat) (x : M) (h : L[i]? = some x) : at_ (L.map M.t) i = x.t := by
  unfold at_
  rw [List.getD_eq_getElem?_getD, List.getElem?_map, h]
  rfl
theorem atom_m (m : M) : isAtomT m.t = (m.kind == 2) := by unfold isAtomT; rw [M.t_kind]
theorem take_all {p : M → Bool} {l : List M} {k : Nat} {x : M} (h : (l.take k).all p = true) (hx : l[k]? = some x) : (l.take (k + 1)).all p = p x := by
  obtain ⟨hk, e⟩ := List.getElem?_eq_some_iff.1 hx
  rw [List.take_succ_eq_append_getElem hk, List.all_append, h, e]
  simp
theorem all_false {p : M → Bool} {l : List M} {k : Nat} {x : M} (hx : l[k]? = some x) (h : p x = false) : l.all p = false := by
  cases hl : l.all p
  · rfl
  · have := List.all_eq_true.1 hl x (List.mem_of_getElem? hx)
    rw [h] at this; cases this
set_option maxRecDepth 100000 in
set_option maxHeartbeats 1600000 in
theorem pl_isAtom (m : M) (w : World) :
    Calls Tryz.prog 99 #[.agg #[.int .i64 m.kind, .string ⟨m.s.toArray⟩, .int .i64 m.n, .slice m.A m.kids.length m.cap, .int .i64 (m.pos : Int)]] w fun e w' => e = .returned (.bool (isAtomT m.t)) ∧ Ev w w' := by
  rw [atom_m]
  have hB := Bx.new 67 #[.int .i64 m.kind, .string ⟨m.s.toArray⟩, .int .i64 m.n, .slice m.A m.kids.length m.cap, .int .i64 (m.pos : Int)] w
  obtain ⟨⟨c0, c1, c2, c3, c4⟩, _⟩ := hB.five
  clear hB
  go_enter Tryz.func99, Tryz.ntmps99
  go_wp2
  go_ret
  exact ⟨rfl, Ev.alloc _ _⟩
set_option maxRecDepth 100000 in
set_option maxHeartbeats 4000000 in
theorem pl_all_isAtom {A : Option Addr} {n cap : Nat} {l : List M} (w : World) (h : Ms w A n cap l) (hf : ∀ x ∈ l, ∀ w1, Ev w w1 → Calls Tryz.prog 99 #[.agg #[.int .i64 x.kind, .string ⟨x.s.toArray⟩, .int .i64 x.n, .slice x.A x.kids.length x.cap, .int .i64 (x.pos : Int)]] w1 fun e w' => e = .returned (.bool (isAtomT x.t)) ∧ Ev w1 w') :
    Calls Tryz.prog 100 #[.slice A n cap, .func (.func 99) #[] #[]] w fun e w' => e = .returned (.bool ((l.map M.t).all isAtomT)) ∧ Ev w w' := by
  have hn := h.le
  have hm := h.max
  have HL := Lib.hid h.len
  have HLA : Hid ((l.map M.t).all isAtomT = l.all fun x => isAtomT x.t) := Lib.hid (by rw [List.all_map]; rfl)
  rw [HLA.out]
  go_enter Tryz.func100, Tryz.ntmps100
  go_wp2
  go_loopw [9] (fun i wr => ∃ k : Nat, k ≤ n ∧ i = .int .i64 (k : Int) ∧ Hid ((l.take k).all (fun x => isAtomT x.t) = true) ∧ Hid (Ev w wr)) (fun i _ => n - (intOf i).toNat)
  case atStart => exact ⟨0, Nat.zero_le _, rfl, Lib.hid (by simp), Lib.hid (Ev.refl _)⟩
  case round =>
    obtain ⟨k, hk, rfl, HT, HE⟩ := hrel
    by_cases hlt : k < n
    · obtain ⟨x, hx⟩ := h.at hlt
      obtain ⟨b, off, rfl, hb, c0, c1, c2, c3, c4⟩ := Ms.cell (h.ev HE.out) hx
      unfold M.kv at c3
      have hF := hf x (List.mem_of_getElem? hx)
      obtain ⟨q, hq⟩ : ∃ q, q = isAtomT x.t := ⟨_, rfl⟩
      rw [← hq] at hF
      have HF := Lib.hid hF
      have HQ := Lib.hid hq
      have HX := Lib.hid hx
      have HE1 := Lib.hid (HE.out.trans (Ev.alloc wr (.cells #[.int .i64 x.kind, .string ⟨x.s.toArray⟩, .int .i64 x.n, .slice x.A x.kids.length x.cap, .int .i64 (x.pos : Int)] 67)))
      have i1 : (0 : Int) ≤ (k : Int) := by omega
      have i2 : (k : Int) < (n : Int) := by omega
      clear hx hF hq hf h
      cases q
      · go_wp2_with (first
          | ((with_reducible refine (HF.out _ HE1.out).mono ?_); rintro e w1 ⟨rfl, hE1⟩))
        go_ret
        exact ⟨by rw [all_false HX.out HQ.out.symm]; rfl, HE1.out.trans hE1⟩
      · go_wp2_with (first
          | ((with_reducible refine (HF.out _ HE1.out).mono ?_); rintro e w1 ⟨rfl, hE1⟩))
        go_roundw
        case rel => exact ⟨k + 1, by omega, by go_num, Lib.hid (by rw [take_all HT.out HX.out, ← HQ.out]), Lib.hid (HE1.out.trans hE1)⟩
        case measure => simp [intOf]; omega
    · obtain rfl : k = n := by omega
      have HA : Hid (l.all (fun x => isAtomT x.t) = true) := Lib.hid (by have := HT.out; rwa [List.take_of_length_le (by rw [HL.out]; exact Nat.le_refl _)] at this)
      go_wp2
      go_ret
      exact ⟨by rw [HA.out]; rfl, HE.out⟩
set_option maxRecDepth 100000 in
set_option maxHeartbeats 1600000 in
theorem pl_isNames (m : M) (b0 : Nat) (w : World) (h : Lies b0 [] w m) :
    Calls Tryz.prog 102 #[.agg #[.int .i64 m.kind, .string ⟨m.s.toArray⟩, .int .i64 m.n, .slice m.A m.kids.length m.cap, .int .i64 (m.pos : Int)]] w fun e w' => e = .returned (.bool (isNmsT m.t)) ∧ Ev w w' := by
  have hB := Bx.new 67 #[.int .i64 m.kind, .string ⟨m.s.toArray⟩, .int .i64 m.n, .slice m.A m.kids.length m.cap, .int .i64 (m.pos : Int)] w
  have hE0 := Ev.alloc w (.cells #[.int .i64 m.kind, .string ⟨m.s.toArray⟩, .int .i64 m.n, .slice m.A m.kids.length m.cap, .int .i64 (m.pos : Int)] 67)
  have HA := Lib.hid (fun w1 (hE : Ev w w1) => pl_all_isAtom w1 (h.ms.ev hE) fun x _ w2 _ => pl_isAtom x w2)
  have hF : isNmsT m.t = (m.kind == 1 && (m.kids.map M.t).all isAtomT) := by unfold isNmsT; rw [M.t_kind, M.t_kids]
  rw [hF]
  have HE0 := Lib.hid hE0
  obtain ⟨⟨c0, c1, c2, c3, c4⟩, _⟩ := hB.five
  generalize (m.kids.map M.t).all isAtomT = q at *
  clear hB hE0 h hF
  by_cases hk : m.kind = 1
  · rw [hk] at c0 HE0 ⊢
    go_enter Tryz.func102, Tryz.ntmps102
    go_wp2_with (first
      | ((with_reducible refine (HA.out _ HE0.out).mono ?_); rintro e w1 ⟨rfl, hE1⟩))
    go_ret
    exact ⟨rfl, HE0.out.trans hE1⟩
  · have hk' : (m.kind == 1) = false := beq_eq_false_iff_ne.2 hk
    rw [hk']
    go_enter Tryz.func102, Tryz.ntmps102
    go_wp2
    go_ret
    exact ⟨rfl, HE0.out⟩
set_option maxRecDepth 100000 in
set_option maxHeartbeats 4000000 in
theorem pl_all_isNames {A : Option Addr} {n cap : Nat} {l : List M} (w : World) (h : Ms w A n cap l) (hf : ∀ x ∈ l, ∀ w1, Ev w w1 → Calls Tryz.prog 102 #[.agg #[.int .i64 x.kind, .string ⟨x.s.toArray⟩, .int .i64 x.n, .slice x.A x.kids.length x.cap, .int .i64 (x.pos : Int)]] w1 fun e w' => e = .returned (.bool (isNmsT x.t)) ∧ Ev w1 w') :
    Calls Tryz.prog 100 #[.slice A n cap, .func (.func 102) #[] #[]] w fun e w' => e = .returned (.bool ((l.map M.t).all isNmsT)) ∧ Ev w w' := by
  have hn := h.le
  have hm := h.max
  have HL := Lib.hid h.len
  have HLA : Hid ((l.map M.t).all isNmsT = l.all fun x => isNmsT x.t) := Lib.hid (by rw [List.all_map]; rfl)
  rw [HLA.out]
  go_enter Tryz.func100, Tryz.ntmps100
  go_wp2
  go_loopw [9] (fun i wr => ∃ k : Nat, k ≤ n ∧ i = .int .i64 (k : Int) ∧ Hid ((l.take k).all (fun x => isNmsT x.t) = true) ∧ Hid (Ev w wr)) (fun i _ => n - (intOf i).toNat)
  case atStart => exact ⟨0, Nat.zero_le _, rfl, Lib.hid (by simp), Lib.hid (Ev.refl _)⟩
  case round =>
    obtain ⟨k, hk, rfl, HT, HE⟩ := hrel
    by_cases hlt : k < n
    · obtain ⟨x, hx⟩ := h.at hlt
      obtain ⟨b, off, rfl, hb, c0, c1, c2, c3, c4⟩ := Ms.cell (h.ev HE.out) hx
      unfold M.kv at c3
      have hF := hf x (List.mem_of_getElem? hx)
      obtain ⟨q, hq⟩ : ∃ q, q = isNmsT x.t := ⟨_, rfl⟩
      rw [← hq] at hF
      have HF := Lib.hid hF
      have HQ := Lib.hid hq
      have HX := Lib.hid hx
      have HE1 := Lib.hid (HE.out.trans (Ev.alloc wr (.cells #[.int .i64 x.kind, .string ⟨x.s.toArray⟩, .int .i64 x.n, .slice x.A x.kids.length x.cap, .int .i64 (x.pos : Int)] 67)))
      have i1 : (0 : Int) ≤ (k : Int) := by omega
      have i2 : (k : Int) < (n : Int) := by omega
      clear hx hF hq hf h
      cases q
      · go_wp2_with (first
          | ((with_reducible refine (HF.out _ HE1.out).mono ?_); rintro e w1 ⟨rfl, hE1⟩))
        go_ret
        exact ⟨by rw [all_false HX.out HQ.out.symm]; rfl, HE1.out.trans hE1⟩
      · go_wp2_with (first
          | ((with_reducible refine (HF.out _ HE1.out).mono ?_); rintro e w1 ⟨rfl, hE1⟩))
        go_roundw
        case rel => exact ⟨k + 1, by omega, by go_num, Lib.hid (by rw [take_all HT.out HX.out, ← HQ.out]), Lib.hid (HE1.out.trans hE1)⟩
        case measure => simp [intOf]; omega
    · obtain rfl : k = n := by omega
      have HA : Hid (l.all (fun x => isNmsT x.t) = true) := Lib.hid (by have := HT.out; rwa [List.take_of_length_le (by rw [HL.out]; exact Nat.le_refl _)] at this)
      go_wp2
      go_ret
      exact ⟨by rw [HA.out]; rfl, HE.out⟩
set_option maxRecDepth 100000 in
set_option maxHeartbeats 1600000 in
theorem pl_isColumn (m : M) (b0 : Nat) (w : World) (h : Lies b0 [] w m) :
    Calls Tryz.prog 101 #[.agg #[.int .i64 m.kind, .string ⟨m.s.toArray⟩, .int .i64 m.n, .slice m.A m.kids.length m.cap, .int .i64 (m.pos : Int)]] w fun e w' => e = .returned (.bool (isColT m.t)) ∧ Ev w w' := by
  have hB := Bx.new 67 #[.int .i64 m.kind, .string ⟨m.s.toArray⟩, .int .i64 m.n, .slice m.A m.kids.length m.cap, .int .i64 (m.pos : Int)] w
  have hE0 := Ev.alloc w (.cells #[.int .i64 m.kind, .string ⟨m.s.toArray⟩, .int .i64 m.n, .slice m.A m.kids.length m.cap, .int .i64 (m.pos : Int)] 67)
  have hms := h.ms
  have hF : isColT m.t = (m.kind == 1 && (m.kids.length == 2 && isAtomT (at_ (m.kids.map M.t) 0))) := by unfold isColT; rw [M.t_kind, M.t_kids, List.length_map, Bool.and_assoc]
  rw [hF]
  have HE0 := Lib.hid hE0
  obtain ⟨⟨c0, c1, c2, c3, c4⟩, _⟩ := hB.five
  have HL := Lib.hid hms.len
  clear hB h hF
  by_cases hk : m.kind = 1
  · by_cases hl : m.kids.length = 2
    · obtain ⟨x, hx⟩ := hms.at (i := 0) (by omega)
      obtain ⟨b, off, hA, hb, d0, d1, d2, d3, d4⟩ := Ms.cell (hms.ev hE0) hx
      unfold M.kv at d3
      have hX := fun w1 => pl_isAtom x w1
      have hat := at_m m.kids 0 x hx
      rw [hat]
      generalize isAtomT x.t = q at *
      have HX := Lib.hid hX
      rw [hA] at c3 HE0 ⊢
      rw [hl] at c3 HE0 ⊢
      rw [hk] at c0 HE0 ⊢
      rw [hA, hl, hk] at d0 d1 d2 d3 d4
      simp only [Nat.zero_mul, Nat.add_zero] at d0 d1 d2 d3 d4
      have hcap : 2 ≤ m.cap := by have := hms.le; omega
      clear hX hat hx hE0 hms hA hb
      go_enter Tryz.func101, Tryz.ntmps101
      go_wp2_with (first
        | ((with_reducible refine (HX.out _).mono ?_); rintro e w1 ⟨rfl, hE1⟩))
      go_ret
      exact ⟨rfl, HE0.out.trans hE1⟩
    · have hl' : (m.kids.length == 2) = false := beq_eq_false_iff_ne.2 hl
      have hl2 : ((m.kids.length : Int) == 2) = false := by rw [beq_eq_false_iff_ne]; omega
      rw [hk] at c0 HE0 ⊢
      rw [hl']
      clear hms hE0
      go_enter Tryz.func101, Tryz.ntmps101
      go_wp2
      go_ret
      exact ⟨rfl, HE0.out⟩
  · have hk' : (m.kind == 1) = false := beq_eq_false_iff_ne.2 hk
    rw [hk']
    clear hms hE0
    go_enter Tryz.func101, Tryz.ntmps101
    go_wp2
    go_ret
    exact ⟨rfl, HE0.out⟩
set_option maxRecDepth 100000 in
set_option maxHeartbeats 1600000 in
theorem pl_isAgg (m : M) (b0 : Nat) (w : World) (h : Lies b0 [] w m) :
    Calls Tryz.prog 103 #[.agg #[.int .i64 m.kind, .string ⟨m.s.toArray⟩, .int .i64 m.n, .slice m.A m.kids.length m.cap, .int .i64 (m.pos : Int)]] w fun e w' => e = .returned (.bool (isAggT m.t)) ∧ Ev w w' := by
  have hB := Bx.new 67 #[.int .i64 m.kind, .string ⟨m.s.toArray⟩, .int .i64 m.n, .slice m.A m.kids.length m.cap, .int .i64 (m.pos : Int)] w
  have hE0 := Ev.alloc w (.cells #[.int .i64 m.kind, .string ⟨m.s.toArray⟩, .int .i64 m.n, .slice m.A m.kids.length m.cap, .int .i64 (m.pos : Int)] 67)
  have HN := Lib.hid (fun w1 (hE : Ev w w1) => pl_isNames m b0 w1 (h.ev hE))
  have hF : isAggT m.t = (isNmsT m.t && (m.kids.length == 2 || m.kids.length == 3)) := by unfold isAggT; rw [M.t_kids, List.length_map]
  rw [hF]
  have HE0 := Lib.hid hE0
  have HB := Lib.hid hB
  obtain ⟨⟨c0, c1, c2, c3, c4⟩, _⟩ := hB.five
  have hmx := h.ms.max
  have hmc := h.ms.le
  generalize isNmsT m.t = q at *
  clear hB hE0 h hF
  generalize m.kids.length = n at *
  cases q
  · go_enter Tryz.func103, Tryz.ntmps103
    go_wp2_with (first
      | ((with_reducible refine (HN.out _ HE0.out).mono ?_); rintro e w1 ⟨rfl, hE1⟩; clear c0 c1 c2 c3 c4; obtain ⟨⟨c0, c1, c2, c3, c4⟩, _⟩ := (HB.out.ev hE1).five))
    go_ret
    exact ⟨rfl, HE0.out.trans hE1⟩
  · by_cases h2 : n = 2
    · subst h2
      go_enter Tryz.func103, Tryz.ntmps103
      go_wp2_with (first
        | ((with_reducible refine (HN.out _ HE0.out).mono ?_); rintro e w1 ⟨rfl, hE1⟩; clear c0 c1 c2 c3 c4; obtain ⟨⟨c0, c1, c2, c3, c4⟩, _⟩ := (HB.out.ev hE1).five))
      go_ret
      exact ⟨rfl, HE0.out.trans hE1⟩
    · have h2' : (n == 2) = false := beq_eq_false_iff_ne.2 h2
      have h2i : ((n : Int) == 2) = false := by rw [beq_eq_false_iff_ne]; omega
      have h3i : ((n : Int) == 3) = (n == 3) := by rw [Bool.eq_iff_iff, beq_iff_eq, beq_iff_eq]; omega
      rw [h2', Bool.false_or]
      go_enter Tryz.func103, Tryz.ntmps103
      go_wp2_with (first
        | ((with_reducible refine (HN.out _ HE0.out).mono ?_); rintro e w1 ⟨rfl, hE1⟩; clear c0 c1 c2 c3 c4; obtain ⟨⟨c0, c1, c2, c3, c4⟩, _⟩ := (HB.out.ev hE1).five))
      go_ret
      exact ⟨rfl, HE0.out.trans hE1⟩
set_option maxRecDepth 100000 in
set_option maxHeartbeats 4000000 in
theorem pl_all_isColumn {A : Option Addr} {n cap : Nat} {l : List M} (w : World) (h : Ms w A n cap l) (hf : ∀ x ∈ l, ∀ w1, Ev w w1 → Calls Tryz.prog 101 #[.agg #[.int .i64 x.kind, .string ⟨x.s.toArray⟩, .int .i64 x.n, .slice x.A x.kids.length x.cap, .int .i64 (x.pos : Int)]] w1 fun e w' => e = .returned (.bool (isColT x.t)) ∧ Ev w1 w') :
    Calls Tryz.prog 100 #[.slice A n cap, .func (.func 101) #[] #[]] w fun e w' => e = .returned (.bool ((l.map M.t).all isColT)) ∧ Ev w w' := by
  have hn := h.le
  have hm := h.max
  have HL := Lib.hid h.len
  have HLA : Hid ((l.map M.t).all isColT = l.all fun x => isColT x.t) := Lib.hid (by rw [List.all_map]; rfl)
  rw [HLA.out]
  go_enter Tryz.func100, Tryz.ntmps100
  go_wp2
  go_loopw [9] (fun i wr => ∃ k : Nat, k ≤ n ∧ i = .int .i64 (k : Int) ∧ Hid ((l.take k).all (fun x => isColT x.t) = true) ∧ Hid (Ev w wr)) (fun i _ => n - (intOf i).toNat)
  case atStart => exact ⟨0, Nat.zero_le _, rfl, Lib.hid (by simp), Lib.hid (Ev.refl _)⟩
  case round =>
    obtain ⟨k, hk, rfl, HT, HE⟩ := hrel
    by_cases hlt : k < n
    · obtain ⟨x, hx⟩ := h.at hlt
      obtain ⟨b, off, rfl, hb, c0, c1, c2, c3, c4⟩ := Ms.cell (h.ev HE.out) hx
      unfold M.kv at c3
      have hF := hf x (List.mem_of_getElem? hx)
      obtain ⟨q, hq⟩ : ∃ q, q = isColT x.t := ⟨_, rfl⟩
      rw [← hq] at hF
      have HF := Lib.hid hF
      have HQ := Lib.hid hq
      have HX := Lib.hid hx
      have HE1 := Lib.hid (HE.out.trans (Ev.alloc wr (.cells #[.int .i64 x.kind, .string ⟨x.s.toArray⟩, .int .i64 x.n, .slice x.A x.kids.length x.cap, .int .i64 (x.pos : Int)] 67)))
      have i1 : (0 : Int) ≤ (k : Int) := by omega
      have i2 : (k : Int) < (n : Int) := by omega
      clear hx hF hq hf h
      cases q
      · go_wp2_with (first
          | ((with_reducible refine (HF.out _ HE1.out).mono ?_); rintro e w1 ⟨rfl, hE1⟩))
        go_ret
        exact ⟨by rw [all_false HX.out HQ.out.symm]; rfl, HE1.out.trans hE1⟩
      · go_wp2_with (first
          | ((with_reducible refine (HF.out _ HE1.out).mono ?_); rintro e w1 ⟨rfl, hE1⟩))
        go_roundw
        case rel => exact ⟨k + 1, by omega, by go_num, Lib.hid (by rw [take_all HT.out HX.out, ← HQ.out]), Lib.hid (HE1.out.trans hE1)⟩
        case measure => simp [intOf]; omega
    · obtain rfl : k = n := by omega
      have HA : Hid (l.all (fun x => isColT x.t) = true) := Lib.hid (by have := HT.out; rwa [List.take_of_length_le (by rw [HL.out]; exact Nat.le_refl _)] at this)
      go_wp2
      go_ret
      exact ⟨by rw [HA.out]; rfl, HE.out⟩
set_option maxRecDepth 100000 in
set_option maxHeartbeats 4000000 in
theorem pl_all_isAgg {A : Option Addr} {n cap : Nat} {l : List M} (w : World) (h : Ms w A n cap l) (hf : ∀ x ∈ l, ∀ w1, Ev w w1 → Calls Tryz.prog 103 #[.agg #[.int .i64 x.kind, .string ⟨x.s.toArray⟩, .int .i64 x.n, .slice x.A x.kids.length x.cap, .int .i64 (x.pos : Int)]] w1 fun e w' => e = .returned (.bool (isAggT x.t)) ∧ Ev w1 w') :
    Calls Tryz.prog 100 #[.slice A n cap, .func (.func 103) #[] #[]] w fun e w' => e = .returned (.bool ((l.map M.t).all isAggT)) ∧ Ev w w' := by
  have hn := h.le
  have hm := h.max
  have HL := Lib.hid h.len
  have HLA : Hid ((l.map M.t).all isAggT = l.all fun x => isAggT x.t) := Lib.hid (by rw [List.all_map]; rfl)
  rw [HLA.out]
  go_enter Tryz.func100, Tryz.ntmps100
  go_wp2
  go_loopw [9] (fun i wr => ∃ k : Nat, k ≤ n ∧ i = .int .i64 (k : Int) ∧ Hid ((l.take k).all (fun x => isAggT x.t) = true) ∧ Hid (Ev w wr)) (fun i _ => n - (intOf i).toNat)
  case atStart => exact ⟨0, Nat.zero_le _, rfl, Lib.hid (by simp), Lib.hid (Ev.refl _)⟩
  case round =>
    obtain ⟨k, hk, rfl, HT, HE⟩ := hrel
    by_cases hlt : k < n
    · obtain ⟨x, hx⟩ := h.at hlt
      obtain ⟨b, off, rfl, hb, c0, c1, c2, c3, c4⟩ := Ms.cell (h.ev HE.out) hx
      unfold M.kv at c3
      have hF := hf x (List.mem_of_getElem? hx)
      obtain ⟨q, hq⟩ : ∃ q, q = isAggT x.t := ⟨_, rfl⟩
      rw [← hq] at hF
      have HF := Lib.hid hF
      have HQ := Lib.hid hq
      have HX := Lib.hid hx
      have HE1 := Lib.hid (HE.out.trans (Ev.alloc wr (.cells #[.int .i64 x.kind, .string ⟨x.s.toArray⟩, .int .i64 x.n, .slice x.A x.kids.length x.cap, .int .i64 (x.pos : Int)] 67)))
      have i1 : (0 : Int) ≤ (k : Int) := by omega
      have i2 : (k : Int) < (n : Int) := by omega
      clear hx hF hq hf h
      cases q
      · go_wp2_with (first
          | ((with_reducible refine (HF.out _ HE1.out).mono ?_); rintro e w1 ⟨rfl, hE1⟩))
        go_ret
        exact ⟨by rw [all_false HX.out HQ.out.symm]; rfl, HE1.out.trans hE1⟩
      · go_wp2_with (first
          | ((with_reducible refine (HF.out _ HE1.out).mono ?_); rintro e w1 ⟨rfl, hE1⟩))
        go_roundw
        case rel => exact ⟨k + 1, by omega, by go_num, Lib.hid (by rw [take_all HT.out HX.out, ← HQ.out]), Lib.hid (HE1.out.trans hE1)⟩
        case measure => simp [intOf]; omega
    · obtain rfl : k = n := by omega
      have HA : Hid (l.all (fun x => isAggT x.t) = true) := Lib.hid (by have := HT.out; rwa [List.take_of_length_le (by rw [HL.out]; exact Nat.le_refl _)] at this)
      go_wp2
      go_ret
      exact ⟨by rw [HA.out]; rfl, HE.out⟩
set_option maxRecDepth 100000 in
theorem pl_isFunction (s : By) (o : Bool) (w : World) :
    Calls Tryz.prog 105 #[.string ⟨s.toArray⟩, .bool o] w fun e w' => e = .returned (.bool (isFun s o)) ∧ Ev w w' := by
  by_cases hbSum : s = bSum
  · subst hbSum
    rw [show isFun bSum o = (o) from rfl]
    unfold bSum
    go_enter Tryz.func105, Tryz.ntmps105
    go_wp2
    go_ret
    exact ⟨rfl, Ev.refl _⟩
  by_cases hbMin : s = bMin
  · subst hbMin
    rw [show isFun bMin o = (o) from rfl]
    unfold bMin
    go_enter Tryz.func105, Tryz.ntmps105
    go_wp2
    go_ret
    exact ⟨rfl, Ev.refl _⟩
  by_cases hbMax : s = bMax
  · subst hbMax
    rw [show isFun bMax o = (o) from rfl]
    unfold bMax
    go_enter Tryz.func105, Tryz.ntmps105
    go_wp2
    go_ret
    exact ⟨rfl, Ev.refl _⟩
  by_cases hbCount : s = bCount
  · subst hbCount
    rw [show isFun bCount o = (!o) from rfl]
    unfold bCount
    go_enter Tryz.func105, Tryz.ntmps105
    go_wp2
    go_ret
    exact ⟨rfl, Ev.refl _⟩
  have gS : (s == bSum) = false := beq_eq_false_iff_ne.2 hbSum
  have gN : (s == bMin) = false := beq_eq_false_iff_ne.2 hbMin
  have gX : (s == bMax) = false := beq_eq_false_iff_ne.2 hbMax
  have gC : (s == bCount) = false := beq_eq_false_iff_ne.2 hbCount
  rw [show isFun s o = false by unfold isFun; rw [gS, gN, gX, gC]; rfl]
  unfold bSum bMin bMax bCount at *
  go_enter Tryz.func105, Tryz.ntmps105
  go_wp2
  go_ret
  exact ⟨rfl, Ev.refl _⟩
end Go.Proofs.YtojbahjebfcmgaaGreatDoor

namespace Go.Proofs.YtojbahjebfcmgaaGreatDoor
open Go.RowKit
set_option linter.unusedVariables false

theorem form_m (m : M) : pForm m.t = (m.kind == 1 && (decide (2 ≤ m.kids.length) && (isAtomT (at_ (m.kids.map M.t) 0) && pFormOf (pKind (at_ (m.kids.map M.t) 0).s) ((m.kids.map M.t).drop 1)))) := by
  unfold pForm
  rw [M.t_kind, M.t_kids, List.length_map, Bool.and_assoc, Bool.and_assoc]
/-- A tree's Kids but for the first. -/
theorem Ms.rest {w : World} {b off k c : Nat} {x : M} {q : List M} (h : Ms w (some ⟨b, off, none⟩) (k + 2) (c + 2) (x :: q)) : Ms w (some ⟨b, off + 5, none⟩) (k + 1) (c + 1) q := by
  refine ⟨by have := h.len; simp at this; omega, by have := h.le; omega, by have := h.max; omega, (fun e => by cases e), fun _ => ?_⟩
  obtain ⟨b', off', e, hlt, hc⟩ := h.rd (by omega)
  injection e with e
  injection e with e1 e2 _
  subst e1; subst e2
  refine ⟨b, off + 5, rfl, hlt, fun i y hy j u hu => ?_⟩
  have := hc (i + 1) y (by simpa using hy) j u hu
  rwa [show off + (i + 1) * 5 + j = off + 5 + i * 5 + j by omega] at this
theorem Ms.cell3 {w : World} {b off n cap : Nat} {l : List M} (h : Ms w (some ⟨b, off, none⟩) n cap l) {i : Nat} {x : M} (hx : l[i]? = some x) :
    w.cell? ⟨b, off + i * 5, none⟩ = some (.int .i64 x.kind) ∧ w.cell? ⟨b, off + i * 5 + 1, none⟩ = some (.string ⟨x.s.toArray⟩) ∧ w.cell? ⟨b, off + i * 5 + 2, none⟩ = some (.int .i64 x.n) ∧ w.cell? ⟨b, off + i * 5 + 3, none⟩ = some (.slice x.A x.kids.length x.cap) ∧ w.cell? ⟨b, off + i * 5 + 4, none⟩ = some (.int .i64 (x.pos : Int)) := by
  obtain ⟨b', off', e, _, h0, h1, h2, h3, h4⟩ := Ms.cell h hx
  injection e with e
  injection e with e1 e2 _
  subst e1; subst e2
  exact ⟨h0, h1, h2, h3, h4⟩
theorem pKind_none {s : By} (h : ¬ (s = bTable) ∧ ¬ (s = bFilter) ∧ ¬ (s = bProject) ∧ ¬ (s = bJoin) ∧ ¬ (s = bUnion) ∧ ¬ (s = bDistinct) ∧ ¬ (s = bGroup)) : pKind s = 0 := by
  obtain ⟨h1, h2, h3, h4, h5, h6, h7⟩ := h
  unfold pKind
  simp [h1, h2, h3, h4, h5, h6, h7]

set_option maxRecDepth 100000 in
set_option maxHeartbeats 16000000 in
theorem pl_hasForm (m : M) (b0 : Nat) (w : World) (h : Lies b0 [] w m) :
    Calls Tryz.prog 51 #[.agg #[.int .i64 m.kind, .string ⟨m.s.toArray⟩, .int .i64 m.n, .slice m.A m.kids.length m.cap, .int .i64 (m.pos : Int)]] w fun e w' => e = .returned (.bool (pForm m.t)) ∧ Ev w w' := by
  have hB := Bx.new 67 #[.int .i64 m.kind, .string ⟨m.s.toArray⟩, .int .i64 m.n, .slice m.A m.kids.length m.cap, .int .i64 (m.pos : Int)] w
  have hE0 := Ev.alloc w (.cells #[.int .i64 m.kind, .string ⟨m.s.toArray⟩, .int .i64 m.n, .slice m.A m.kids.length m.cap, .int .i64 (m.pos : Int)] 67)
  have hms := h.ms
  have hk0 := h.kid
  rw [form_m]
  have HE0 := Lib.hid hE0
  have HB := Lib.hid hB
  obtain ⟨⟨c0, c1, c2, c3, c4⟩, _⟩ := hB.five
  clear hB h
  have hlk : (m.kids.map M.t).length = m.kids.length := List.length_map ..
  generalize hkd : m.kind = kd at *
  generalize hmA : m.A = mA at *
  generalize hkn : m.kids.length = kn at *
  generalize hmc : m.cap = mc at *
  generalize hLL : m.kids = L at *
  clear hkd hmA hmc hLL
  by_cases hk : kd = 1
  · subst hk
    by_cases hl : 2 ≤ kn
    · obtain ⟨x, q, hq⟩ : ∃ x q, L = x :: q := by
        cases L with
        | nil => simp at hkn; omega
        | cons x q => exact ⟨x, q, rfl⟩
      obtain ⟨k, rfl⟩ : ∃ k, kn = k + 2 := ⟨kn - 2, by omega⟩
      have hcl := hms.le
      have hcm := hms.max
      obtain ⟨c, rfl⟩ : ∃ c, mc = c + 2 := ⟨mc - 2, by omega⟩
      subst hq
      obtain ⟨b, off, rfl, hb, _⟩ := Ms.cell hms (i := 0) (x := x) rfl
      have hql : q.length = k + 1 := by simpa using hkn
      rw [decide_eq_true hl]
      have HKC := Lib.hid (fun w1 (hE : Ev w w1) => Ms.cell3 (hms.ev hE) (i := 0) (x := x) rfl)
      simp only [Nat.zero_mul, Nat.add_zero] at HKC
      have HR := Lib.hid (fun w1 (hE : Ev w w1) => Ms.rest (hms.ev hE))
      have HKL := Lib.hid (fun y (hy : y ∈ q) w1 (hE : Ev w w1) => (hk0 y (List.mem_cons_of_mem _ hy)).ev hE)
      have HQL := Lib.hid hql
      have HX := Lib.hid (fun w1 => pl_isAtom x w1)
      simp only [List.map_cons, List.drop_succ_cons, List.drop_zero, at_, List.getD_cons_zero, M.t_s, beq_self_eq_true, Bool.true_and] at HX ⊢
      obtain ⟨d0, d1, d2, d3, d4⟩ := HKC.out _ HE0.out
      clear hms hk0 hql hl hb hE0 hkn hlk
      have ARM := trivial
      generalize hqa : isAtomT x.t = qa at *
      cases qa
      · rw [Bool.false_and]
        go_enter Tryz.func51, Tryz.ntmps51
        go_wp2_with (first
          | ((with_reducible refine (HX.out _).mono ?_); rintro e w1 ⟨rfl, hE1⟩))
        go_ret
        exact ⟨rfl, HE0.out.trans hE1⟩
      · rw [Bool.true_and]
        have HXS : Hid (x.s = x.s) := Lib.hid rfl
        generalize hxs : x.s = s at *
        by_cases hTable : s = bTable
        · subst hTable
          by_cases hz : k = 0
          · subst hz
            obtain ⟨y, hy⟩ : ∃ y, q = [y] := by
              have := HQL.out
              match q, this with
              | [y], _ => exact ⟨y, rfl⟩
            have hP : pFormOf (pKind bTable) (q.map M.t) = isAtomT y.t := by rw [hy]; rfl
            rw [hP]
            have HY := Lib.hid (fun w1 => pl_isAtom y w1)
            have HYC := Lib.hid (fun w1 (hE : Ev w w1) => Ms.cell3 (HR.out w1 hE) (i := 0) (x := y) (by rw [hy]; rfl))
            simp only [Nat.zero_mul, Nat.add_zero] at HYC
            generalize isAtomT y.t = qy at *
            unfold bTable at *
            clear hy hP
            go_enter Tryz.func51, Tryz.ntmps51
            go_wp2_with (first
              | ((with_reducible refine (HY.out _).mono ?_); rintro e w2 ⟨rfl, hE2⟩)
              | ((with_reducible refine (HX.out _).mono ?_); rintro e w1 ⟨rfl, hE1⟩; have E1 := Lib.hid (HE0.out.trans hE1); clear c0 c1 c2 c3 c4 d0 d1 d2 d3 d4; obtain ⟨⟨c0, c1, c2, c3, c4⟩, _⟩ := (HB.out.ev hE1).five; obtain ⟨d0, d1, d2, d3, d4⟩ := HKC.out _ E1.out; obtain ⟨e0, e1, e2, e3, e4⟩ := HYC.out _ E1.out))
            go_ret
            exact ⟨rfl, E1.out.trans hE2⟩
          · have hP : pFormOf (pKind bTable) (q.map M.t) = false := by
              show ((q.map M.t).length == 1 && isAtomT (at_ (q.map M.t) 0)) = false
              rw [List.length_map, HQL.out, show (k + 1 == 1) = false from beq_eq_false_iff_ne.2 (by omega), Bool.false_and]
            rw [hP]
            have i1 : ((k : Int) + 1 == 1) = false := by rw [beq_eq_false_iff_ne]; omega
            unfold bTable at *
            go_enter Tryz.func51, Tryz.ntmps51
            go_wp2_with (first
              | ((with_reducible refine (HX.out _).mono ?_); rintro e w1 ⟨rfl, hE1⟩; have E1 := Lib.hid (HE0.out.trans hE1); clear c0 c1 c2 c3 c4 d0 d1 d2 d3 d4; obtain ⟨⟨c0, c1, c2, c3, c4⟩, _⟩ := (HB.out.ev hE1).five; obtain ⟨d0, d1, d2, d3, d4⟩ := HKC.out _ E1.out))
            go_ret
            exact ⟨rfl, E1.out⟩
        by_cases hFilter : s = bFilter
        · subst hFilter
          have hP : pFormOf (pKind bFilter) (q.map M.t) = ((k : Int) + 1 == 2) := by
            show ((q.map M.t).length == 2) = _
            rw [List.length_map, HQL.out, Bool.eq_iff_iff, beq_iff_eq, beq_iff_eq]
            omega
          rw [hP]
          unfold bFilter at *
          go_enter Tryz.func51, Tryz.ntmps51
          go_wp2_with (first
            | ((with_reducible refine (HX.out _).mono ?_); rintro e w1 ⟨rfl, hE1⟩; have E1 := Lib.hid (HE0.out.trans hE1); clear c0 c1 c2 c3 c4 d0 d1 d2 d3 d4; obtain ⟨⟨c0, c1, c2, c3, c4⟩, _⟩ := (HB.out.ev hE1).five; obtain ⟨d0, d1, d2, d3, d4⟩ := HKC.out _ E1.out))
          go_ret
          exact ⟨rfl, E1.out⟩
        by_cases hProject : s = bProject
        · subst hProject
          by_cases hz : 1 ≤ k
          · have hP : pFormOf (pKind bProject) (q.map M.t) = ((q.take k).map M.t).all isColT := by
              show (decide (2 ≤ (q.map M.t).length) && ((q.map M.t).take ((q.map M.t).length - 1)).all isColT) = _
              rw [List.length_map, HQL.out, decide_eq_true (by omega), Bool.true_and, Nat.add_sub_cancel, ← List.map_take]
            rw [hP]
            have HC := Lib.hid (fun w1 (hE : Ev w w1) => pl_all_isColumn w1 ((HR.out w1 hE).to k (by omega)) fun y hy w2 hE2 => pl_isColumn y b0 w2 (HKL.out y (List.mem_of_mem_take hy) w2 (hE.trans hE2)))
            generalize ((q.take k).map M.t).all isColT = qc at *
            have i1 : (2 : Int) ≤ (k : Int) + 1 := by omega
            have i2 : (0 : Int) ≤ (k : Int) := by omega
            have i3 : (k : Int) ≤ (c : Int) + 1 := by omega
            unfold bProject at *
            clear hP
            go_enter Tryz.func51, Tryz.ntmps51
            go_wp2_with (first
              | ((with_reducible refine (HC.out _ E1.out).mono ?_); rintro e w2 ⟨rfl, hE2⟩)
              | ((with_reducible refine (HX.out _).mono ?_); rintro e w1 ⟨rfl, hE1⟩; have E1 := Lib.hid (HE0.out.trans hE1); clear c0 c1 c2 c3 c4 d0 d1 d2 d3 d4; obtain ⟨⟨c0, c1, c2, c3, c4⟩, _⟩ := (HB.out.ev hE1).five; obtain ⟨d0, d1, d2, d3, d4⟩ := HKC.out _ E1.out))
            go_ret
            exact ⟨rfl, E1.out.trans hE2⟩
          · have hP : pFormOf (pKind bProject) (q.map M.t) = false := by
              show (decide (2 ≤ (q.map M.t).length) && ((q.map M.t).take ((q.map M.t).length - 1)).all isColT) = _
              rw [List.length_map, HQL.out, decide_eq_false (by omega), Bool.false_and]
            rw [hP]
            have i1 : ¬ (2 : Int) ≤ (k : Int) + 1 := by omega
            unfold bProject at *
            go_enter Tryz.func51, Tryz.ntmps51
            go_wp2_with (first
              | ((with_reducible refine (HX.out _).mono ?_); rintro e w1 ⟨rfl, hE1⟩; have E1 := Lib.hid (HE0.out.trans hE1); clear c0 c1 c2 c3 c4 d0 d1 d2 d3 d4; obtain ⟨⟨c0, c1, c2, c3, c4⟩, _⟩ := (HB.out.ev hE1).five; obtain ⟨d0, d1, d2, d3, d4⟩ := HKC.out _ E1.out))
            go_ret
            exact ⟨rfl, E1.out⟩
        by_cases hJoin : s = bJoin
        · subst hJoin
          by_cases hz : k = 3
          · subst hz
            have hP : pFormOf (pKind bJoin) (q.map M.t) = ((q.take 2).map M.t).all isNmsT := by
              show ((q.map M.t).length == 4 && ((q.map M.t).take 2).all isNmsT) = _
              rw [List.length_map, HQL.out, ← List.map_take]
              rfl
            rw [hP]
            have HC := Lib.hid (fun w1 (hE : Ev w w1) => pl_all_isNames w1 ((HR.out w1 hE).to 2 (by omega)) fun y hy w2 hE2 => pl_isNames y b0 w2 (HKL.out y (List.mem_of_mem_take hy) w2 (hE.trans hE2)))
            generalize ((q.take 2).map M.t).all isNmsT = qc at *
            have i3 : (2 : Int) ≤ (c : Int) + 1 := by omega
            unfold bJoin at *
            clear hP
            go_enter Tryz.func51, Tryz.ntmps51
            go_wp2_with (first
              | ((with_reducible refine (HC.out _ E1.out).mono ?_); rintro e w2 ⟨rfl, hE2⟩)
              | ((with_reducible refine (HX.out _).mono ?_); rintro e w1 ⟨rfl, hE1⟩; have E1 := Lib.hid (HE0.out.trans hE1); clear c0 c1 c2 c3 c4 d0 d1 d2 d3 d4; obtain ⟨⟨c0, c1, c2, c3, c4⟩, _⟩ := (HB.out.ev hE1).five; obtain ⟨d0, d1, d2, d3, d4⟩ := HKC.out _ E1.out))
            go_ret
            exact ⟨rfl, E1.out.trans hE2⟩
          · have hP : pFormOf (pKind bJoin) (q.map M.t) = false := by
              show ((q.map M.t).length == 4 && ((q.map M.t).take 2).all isNmsT) = _
              rw [List.length_map, HQL.out, show (k + 1 == 4) = false from beq_eq_false_iff_ne.2 (by omega), Bool.false_and]
            rw [hP]
            have i1 : ((k : Int) + 1 == 4) = false := by rw [beq_eq_false_iff_ne]; omega
            unfold bJoin at *
            go_enter Tryz.func51, Tryz.ntmps51
            go_wp2_with (first
              | ((with_reducible refine (HX.out _).mono ?_); rintro e w1 ⟨rfl, hE1⟩; have E1 := Lib.hid (HE0.out.trans hE1); clear c0 c1 c2 c3 c4 d0 d1 d2 d3 d4; obtain ⟨⟨c0, c1, c2, c3, c4⟩, _⟩ := (HB.out.ev hE1).five; obtain ⟨d0, d1, d2, d3, d4⟩ := HKC.out _ E1.out))
            go_ret
            exact ⟨rfl, E1.out⟩
        by_cases hUnion : s = bUnion
        · subst hUnion
          have hP : pFormOf (pKind bUnion) (q.map M.t) = ((k : Int) + 1 == 2) := by
            show ((q.map M.t).length == 2) = _
            rw [List.length_map, HQL.out, Bool.eq_iff_iff, beq_iff_eq, beq_iff_eq]
            omega
          rw [hP]
          unfold bUnion at *
          go_enter Tryz.func51, Tryz.ntmps51
          go_wp2_with (first
            | ((with_reducible refine (HX.out _).mono ?_); rintro e w1 ⟨rfl, hE1⟩; have E1 := Lib.hid (HE0.out.trans hE1); clear c0 c1 c2 c3 c4 d0 d1 d2 d3 d4; obtain ⟨⟨c0, c1, c2, c3, c4⟩, _⟩ := (HB.out.ev hE1).five; obtain ⟨d0, d1, d2, d3, d4⟩ := HKC.out _ E1.out))
          go_ret
          exact ⟨rfl, E1.out⟩
        by_cases hDistinct : s = bDistinct
        · subst hDistinct
          have hP : pFormOf (pKind bDistinct) (q.map M.t) = ((k : Int) + 1 == 1) := by
            show ((q.map M.t).length == 1) = _
            rw [List.length_map, HQL.out, Bool.eq_iff_iff, beq_iff_eq, beq_iff_eq]
            omega
          rw [hP]
          unfold bDistinct at *
          go_enter Tryz.func51, Tryz.ntmps51
          go_wp2_with (first
            | ((with_reducible refine (HX.out _).mono ?_); rintro e w1 ⟨rfl, hE1⟩; have E1 := Lib.hid (HE0.out.trans hE1); clear c0 c1 c2 c3 c4 d0 d1 d2 d3 d4; obtain ⟨⟨c0, c1, c2, c3, c4⟩, _⟩ := (HB.out.ev hE1).five; obtain ⟨d0, d1, d2, d3, d4⟩ := HKC.out _ E1.out))
          go_ret
          exact ⟨rfl, E1.out⟩
        by_cases hGroup : s = bGroup
        · subst hGroup
          by_cases hz : 1 ≤ k
          · obtain ⟨y, r, hy⟩ : ∃ y r, q = y :: r := by
              cases q with
              | nil => have := HQL.out; simp at this
              | cons y r => exact ⟨y, r, rfl⟩
            obtain ⟨k1, rfl⟩ : ∃ k1, k = k1 + 1 := ⟨k - 1, by omega⟩
            have hrl : r.length = k1 + 1 := by have := HQL.out; rw [hy] at this; simpa using this
            have hP : pFormOf (pKind bGroup) (q.map M.t) = (isNmsT y.t && ((r.take k1).map M.t).all isAggT) := by
              show (decide (2 ≤ (q.map M.t).length) && isNmsT (at_ (q.map M.t) 0) && (((q.map M.t).take ((q.map M.t).length - 1)).drop 1).all isAggT) = _
              rw [List.length_map, HQL.out, decide_eq_true (by omega), Bool.true_and, Nat.add_sub_cancel, ← List.map_take, hy, List.take_succ_cons]
              rfl
            rw [hP]
            have HY := Lib.hid (fun w1 (hE : Ev w w1) => pl_isNames y b0 w1 (HKL.out y (by rw [hy]; exact List.mem_cons_self ..) w1 hE))
            have HYC := Lib.hid (fun w1 (hE : Ev w w1) => Ms.cell3 (HR.out w1 hE) (i := 0) (x := y) (by rw [hy]; rfl))
            simp only [Nat.zero_mul, Nat.add_zero] at HYC
            obtain ⟨c1_, rfl⟩ : ∃ c1, c = c1 + 1 := ⟨c - 1, by omega⟩
            have HRR := Lib.hid (fun w1 (hE : Ev w w1) => Ms.rest (x := y) (q := r) (by have := HR.out w1 hE; rw [hy] at this; exact this))
            have HC := Lib.hid (fun w1 (hE : Ev w w1) => pl_all_isAgg w1 ((HRR.out w1 hE).to k1 (by omega)) fun z hzm w2 hE2 => pl_isAgg z b0 w2 (HKL.out z (by rw [hy]; exact List.mem_cons_of_mem _ (List.mem_of_mem_take hzm)) w2 (hE.trans hE2)))
            generalize isNmsT y.t = qy at *
            generalize ((r.take k1).map M.t).all isAggT = qc at *
            have i1 : (2 : Int) ≤ (k1 : Int) + 1 + 1 := by omega
            have i2 : (1 : Int) ≤ (k1 : Int) + 1 := by omega
            have i3 : (k1 : Int) + 1 ≤ (c1_ : Int) + 1 + 1 := by omega
            unfold bGroup at *
            clear hP hy hrl
            cases qy
            · go_enter Tryz.func51, Tryz.ntmps51
              go_wp2_with (first
                | ((with_reducible refine (HY.out _ E1.out).mono ?_); rintro e w2 ⟨rfl, hE2⟩)
                | ((with_reducible refine (HX.out _).mono ?_); rintro e w1 ⟨rfl, hE1⟩; have E1 := Lib.hid (HE0.out.trans hE1); clear c0 c1 c2 c3 c4 d0 d1 d2 d3 d4; obtain ⟨⟨c0, c1, c2, c3, c4⟩, _⟩ := (HB.out.ev hE1).five; obtain ⟨d0, d1, d2, d3, d4⟩ := HKC.out _ E1.out; obtain ⟨e0, e1, e2, e3, e4⟩ := HYC.out _ E1.out))
              go_ret
              exact ⟨rfl, E1.out.trans hE2⟩
            · go_enter Tryz.func51, Tryz.ntmps51
              go_wp2_with (first
                | ((with_reducible refine (HY.out _ E1.out).mono ?_); rintro e w2 ⟨rfl, hE2⟩; have E2 := Lib.hid (E1.out.trans hE2))
                | ((with_reducible refine (HC.out _ E2.out).mono ?_); rintro e w3 ⟨rfl, hE3⟩)
                | ((with_reducible refine (HX.out _).mono ?_); rintro e w1 ⟨rfl, hE1⟩; have E1 := Lib.hid (HE0.out.trans hE1); clear c0 c1 c2 c3 c4 d0 d1 d2 d3 d4; obtain ⟨⟨c0, c1, c2, c3, c4⟩, _⟩ := (HB.out.ev hE1).five; obtain ⟨d0, d1, d2, d3, d4⟩ := HKC.out _ E1.out; obtain ⟨e0, e1, e2, e3, e4⟩ := HYC.out _ E1.out))
              go_ret
              exact ⟨rfl, E2.out.trans hE3⟩
          · have hP : pFormOf (pKind bGroup) (q.map M.t) = false := by
              show (decide (2 ≤ (q.map M.t).length) && isNmsT (at_ (q.map M.t) 0) && (((q.map M.t).take ((q.map M.t).length - 1)).drop 1).all isAggT) = _
              rw [List.length_map, HQL.out, decide_eq_false (by omega), Bool.false_and, Bool.false_and]
            rw [hP]
            have i1 : ¬ (2 : Int) ≤ (k : Int) + 1 := by omega
            unfold bGroup at *
            go_enter Tryz.func51, Tryz.ntmps51
            go_wp2_with (first
              | ((with_reducible refine (HX.out _).mono ?_); rintro e w1 ⟨rfl, hE1⟩; have E1 := Lib.hid (HE0.out.trans hE1); clear c0 c1 c2 c3 c4 d0 d1 d2 d3 d4; obtain ⟨⟨c0, c1, c2, c3, c4⟩, _⟩ := (HB.out.ev hE1).five; obtain ⟨d0, d1, d2, d3, d4⟩ := HKC.out _ E1.out))
            go_ret
            exact ⟨rfl, E1.out⟩
        rw [pKind_none ⟨hTable, hFilter, hProject, hJoin, hUnion, hDistinct, hGroup⟩]
        have gTable : (s == bTable) = false := beq_eq_false_iff_ne.2 hTable
        have gFilter : (s == bFilter) = false := beq_eq_false_iff_ne.2 hFilter
        have gProject : (s == bProject) = false := beq_eq_false_iff_ne.2 hProject
        have gJoin : (s == bJoin) = false := beq_eq_false_iff_ne.2 hJoin
        have gUnion : (s == bUnion) = false := beq_eq_false_iff_ne.2 hUnion
        have gDistinct : (s == bDistinct) = false := beq_eq_false_iff_ne.2 hDistinct
        have gGroup : (s == bGroup) = false := beq_eq_false_iff_ne.2 hGroup
        unfold bTable bFilter bProject bJoin bUnion bDistinct bGroup at *
        rw [show pFormOf 0 (q.map M.t) = false from rfl]
        go_enter Tryz.func51, Tryz.ntmps51
        go_wp2_with (first
          | ((with_reducible refine (HX.out _).mono ?_); rintro e w1 ⟨rfl, hE1⟩; have E1 := Lib.hid (HE0.out.trans hE1); clear c0 c1 c2 c3 c4 d0 d1 d2 d3 d4; obtain ⟨⟨c0, c1, c2, c3, c4⟩, _⟩ := (HB.out.ev hE1).five; obtain ⟨d0, d1, d2, d3, d4⟩ := HKC.out _ E1.out))
        go_ret
        exact ⟨rfl, E1.out⟩
    · rw [decide_eq_false hl, Bool.false_and, Bool.and_false]
      have i1 : (kn : Int) < 2 := by omega
      clear hms hk0 hE0
      go_enter Tryz.func51, Tryz.ntmps51
      go_wp2
      go_ret
      exact ⟨rfl, HE0.out⟩
  · have hk' : (kd == 1) = false := beq_eq_false_iff_ne.2 hk
    have hkn' : (kd != 1) = true := by simp [hk]
    rw [hk', Bool.false_and]
    clear hms hk0 hE0
    go_enter Tryz.func51, Tryz.ntmps51
    go_wp2
    go_ret
    exact ⟨rfl, HE0.out⟩
end Go.Proofs.YtojbahjebfcmgaaGreatDoor
