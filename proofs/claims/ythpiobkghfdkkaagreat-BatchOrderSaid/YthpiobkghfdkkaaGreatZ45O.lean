/-
  Texts that belong together: zset.Add; package batch: sum, isFull, item. Package batch: allowed, change. Package batch: change. Package batch: clones. Package batch: byName, BinarySearchFunc with it.
-/
import Derived.Test.YthpiobkghfdkkaaGreatZ42O
import Derived.Test.YthpiobkghfdkkaaGreatZ22O
import Derived.Test.YthpiobkghfdkkaaGreatZ43O
import Derived.Test.YthpiobkghfdkkaaGreatZ44O
import Derived.Test.YthpiobkghfdkkaaGreatZ2O
import Derived.Test.YthpiobkghfdkkaaGreatZ40O
import Derived.Test.YthpiobkghfdkkaaGreatZ17O
import Derived.Test.YthpiobkghfdkkaaGreatZ5O
import Derived.Lib.Bytealg
namespace Go.Proofs.YthpiobkghfdkkaaGreat
open Go.RowKit
set_option linter.unusedVariables false

set_option maxRecDepth 100000 in
set_option maxHeartbeats 8000000 in
theorem add_in {l m : List I} {A B : Option Addr} {n cap n' cap' : Nat} (w : World) (h : SetIn l w A n cap) (h' : SetIn m w B n' cap') (hn : n ≤ 100000) (hn' : n' ≤ 100000) (ht : ∀ x ∈ l ++ m, TallyAs x.2.1 x.2.2) :
    Calls Tryz.prog 21 #[.slice A n cap, .slice B n' cap'] w fun e w' => SetErrN w.heap.size (makeI (l ++ m)) e w' ∧ Ev w w' := by
  obtain ⟨Z, hz, rfl⟩ := h
  obtain ⟨Z', hz', rfl⟩ := h'
  obtain rfl := hz.len
  obtain rfl := hz'.len
  have HCC := Lib.hid (fun (A1 : Option Addr) w1 (hE : Ev w w1) (hs1 : Sl 1 gcs w1 A1 2 2 [⟨A, cap, Z⟩, ⟨B, cap', Z'⟩]) => items_concat w1 (L := [⟨A, cap, Z⟩, ⟨B, cap', Z'⟩]) ⟨hs1, fun x hx => by
    simp only [List.mem_cons, List.not_mem_nil, or_false] at hx
    rcases hx with rfl | rfl
    · exact (hz.ev hE).wide hE.size (Nat.le_refl _)
    · exact (hz'.ev hE).wide hE.size (Nat.le_refl _)⟩ (by simp; omega) (by decide))
  have HGI : Hid (itemsOf (([⟨A, cap, Z⟩, ⟨B, cap', Z'⟩] : List (Sle J)).flatMap Sle.l) = itemsOf Z ++ itemsOf Z') := Lib.hid (by simp [itemsOf])
  rw [HGI.out] at HCC
  have HLN : Hid ((itemsOf Z ++ itemsOf Z').length ≤ 1000000000000) := Lib.hid (by rw [List.length_append, itemsOf_length, itemsOf_length]; omega)
  have HMK := Lib.hid (fun (A1 : Option Addr) (n1 c1 : Nat) w1 (hS : SetIn (itemsOf Z ++ itemsOf Z') w1 A1 n1 c1) => make_inN w1 hS (by rw [← hS.len]; exact HLN.out) ht)
  have HSL := Lib.hid (Sl.made (enc := gcs) (fun _ => rfl) [⟨A, cap, Z⟩, ⟨B, cap', Z'⟩] 2 rfl (by decide) w #[.slice A Z.length cap, .slice B Z'.length cap'] 41 rfl)
  generalize itemsOf Z ++ itemsOf Z' = GI at *
  generalize makeI GI = M at *
  unfold SetErrN at HMK ⊢
  clear hz hz' ht HGI HLN
  go_enter Tryz.func21, Tryz.ntmps21
  go_wp2_with (first
    | ((with_reducible refine (HCC.out _ _ (Ev.alloc _ _) HSL.out).mono ?_); rintro r w1 ⟨A1, n1, c1, rfl, hS, hE⟩; have HS1 := Lib.hid hS; have E1 := Lib.hid ((Ev.alloc w (.cells #[.slice A Z.length cap, .slice B Z'.length cap'] 41)).trans hE); clear hS hE)
    | ((with_reducible refine (HMK.out _ _ _ _ HS1.out).mono ?_); rintro r w2 ⟨⟨A2, c2, rfl, hS⟩, hE⟩; simp only []))
  go_ret2
  exact ⟨⟨_, _, rfl, hS.less E1.out.size⟩, E1.out.trans hE⟩

/-- A set in new memory. -/
def SetOutN (S : List I) (w : World) (e : Ending) (w' : World) : Prop := ∃ A c, e = .returned (.slice A S.length c) ∧ SetNew w.heap.size S w' A S.length c ∧ Ev w w'

set_option maxRecDepth 100000 in
set_option maxHeartbeats 8000000 in
theorem bt_sum {l m S : List I} {A B : Option Addr} {n cap n' cap' : Nat} (w : World) (h : SetIn l w A n cap) (h' : SetIn m w B n' cap') (hn : n ≤ 100000) (hn' : n' ≤ 100000) (ht : ∀ x ∈ l ++ m, TallyAs x.2.1 x.2.2) (hS : makeI (l ++ m) = (0, S)) :
    Calls Tryz.prog 59 #[.slice A n cap, .slice B n' cap'] w (SetOutN S w) := by
  have HA := Lib.hid (add_in w h h' hn hn' ht)
  rw [hS] at HA
  unfold SetErrN at HA
  unfold SetOutN
  clear h h' ht hS
  go_enter Tryz.func59, Tryz.ntmps59
  go_wp2_with (first
    | ((with_reducible refine (HA.out).mono ?_); rintro r w1 ⟨⟨A1, c1, rfl, hS⟩, hE⟩; simp only []))
  go_ret
  exact ⟨_, _, rfl, hS, hE⟩

set_option maxRecDepth 100000 in
set_option maxHeartbeats 8000000 in
theorem bt_isFull {k : Nat} {S : List I} {A : Option Addr} {n cap : Nat} (w : World) (h : SetIn S w A n cap) (hS : ZOk k S) (hk : k ≤ 1000) :
    Calls Tryz.prog 94 #[.slice A n cap] w fun e w' => e = .returned (.bool (decide (64 ≤ netS (fun _ => 1) S))) ∧ Ev w w' := by
  have HT := Lib.hid (total_in w h hS.parts)
  rw [total_small hS (by omega)] at HT
  generalize netS (fun _ => 1) S = N at *
  clear h hS
  go_enter Tryz.func94, Tryz.ntmps94
  by_cases hN : 64 ≤ N
  · have hN' : N ≥ 64 := hN
    rw [decide_eq_true hN]
    go_wp2_with (first
      | ((with_reducible refine (HT.out).mono ?_); rintro r w1 ⟨rfl, hE⟩; simp only []))
    go_ret
    exact ⟨by simp, hE⟩
  · have hN' : ¬ N ≥ 64 := hN
    rw [decide_eq_false hN]
    go_wp2_with (first
      | ((with_reducible refine (HT.out).mono ?_); rintro r w1 ⟨rfl, hE⟩; simp only []))
    go_ret
    exact ⟨by simp, hE⟩

theorem Tryz.sizeItem : (Tryz.prog.info? 62).map (·.size) = some 2 := by kernel_rfl
theorem bx_chi (w : World) (tab : ByteArray) (A : Option Addr) (n cap : Nat) (rem : Bool) : ∃ w0, (w.alloc (.cells #[.string tab, .slice A n cap, .bool rem] 25)).alloc (.cells #[.slice none 0 0, .complex .f64 0 0] 62) = w0 ∧ Ev w w0 ∧ Bx 25 w.heap.size #[.string tab, .slice A n cap, .bool rem] w0 ∧ Bx 62 (w.heap.size + 1) #[.slice none 0 0, .complex .f64 0 0] w0 := by
  have hB := Bx.new 62 #[.slice none 0 0, .complex .f64 0 0] (w.alloc (.cells #[.string tab, .slice A n cap, .bool rem] 25))
  rw [show (w.alloc (.cells #[.string tab, .slice A n cap, .bool rem] 25)).heap.size = w.heap.size + 1 by simp] at hB
  exact ⟨_, rfl, (Ev.alloc w _).trans (Ev.alloc _ _), (Bx.new 25 #[.string tab, .slice A n cap, .bool rem] w).ev (Ev.alloc _ _), hB⟩

set_option maxRecDepth 100000 in
set_option maxHeartbeats 8000000 in
theorem bt_item (tab : ByteArray) (rem : Bool) (A : Option Addr) (n cap : Nat) (w : World) :
    Calls Tryz.prog 63 #[.agg #[.string tab, .slice A n cap, .bool rem]] w fun e w' => e = .returned (.agg #[.slice A n cap, .complex .f64 (fl (oneP rem)) (fl (oneQ rem))]) ∧ Ev w w' := by
  obtain ⟨w0, hw0, hE0, hB, hT⟩ := bx_chi w tab A n cap rem
  obtain ⟨⟨p0, p1, p2⟩, _⟩ := hB.three
  obtain ⟨_, z0, z1⟩ := hT.two
  have HT := Lib.hid hT
  have HE0 := Lib.hid hE0
  have hst := store_complex
  clear hB hT hE0
  go_enter Tryz.func63, Tryz.ntmps63
  cases rem
  · go_wp2
    (try simp only [Exit.inBlock, Exit.then])
    rw [set2_fold]
    refine bodyPost_ret (results_cell1 rfl _ _ _ _ _ rfl (HT.out.set2 _ _) Tryz.underlying62 rfl Tryz.sizeItem) rfl ?_
    exact ⟨by simp [oneP, oneQ, fl_1, fl_zero], HE0.out.box (set2_but _ _ _ _) (by omega)⟩
  · go_wp2
    (try simp only [Exit.inBlock, Exit.then])
    rw [set2_fold]
    refine bodyPost_ret (results_cell1 rfl _ _ _ _ _ rfl (HT.out.set2 _ _) Tryz.underlying62 rfl Tryz.sizeItem) rfl ?_
    exact ⟨by simp [oneP, oneQ, fl_1, fl_zero], HE0.out.box (set2_but _ _ _ _) (by omega)⟩
end Go.Proofs.YthpiobkghfdkkaaGreat

namespace Go.Proofs.YthpiobkghfdkkaaGreat
open Go.RowKit
set_option linter.unusedVariables false

/-- A change of a table, as the program answers. -/
def whyC (S : List I) (r : List V) (rem : Bool) : Int := if rem then (if cnt r S = 0 then 25 else 0) else (if 64 ≤ netS (fun _ => 1) S then 13 else 0)
theorem bx_tch (w : World) (t : TM) (tab : ByteArray) (A : Option Addr) (n cap : Nat) (rem : Bool) : ∃ w0, (w.alloc (.cells #[.string ⟨t.name.toArray⟩, .slice t.cA t.cols.length t.cc, .slice t.rA t.rows.length t.rc] 45)).alloc (.cells #[.string tab, .slice A n cap, .bool rem] 25) = w0 ∧ Ev w w0 ∧ Bx 45 w.heap.size #[.string ⟨t.name.toArray⟩, .slice t.cA t.cols.length t.cc, .slice t.rA t.rows.length t.rc] w0 ∧ Bx 25 (w.heap.size + 1) #[.string tab, .slice A n cap, .bool rem] w0 := by
  have hB := Bx.new 25 #[.string tab, .slice A n cap, .bool rem] (w.alloc (.cells #[.string ⟨t.name.toArray⟩, .slice t.cA t.cols.length t.cc, .slice t.rA t.rows.length t.rc] 45))
  rw [show (w.alloc (.cells #[.string ⟨t.name.toArray⟩, .slice t.cA t.cols.length t.cc, .slice t.rA t.rows.length t.rc] 45)).heap.size = w.heap.size + 1 by simp] at hB
  exact ⟨_, rfl, (Ev.alloc w _).trans (Ev.alloc _ _), (Bx.new 45 #[.string ⟨t.name.toArray⟩, .slice t.cA t.cols.length t.cc, .slice t.rA t.rows.length t.rc] w).ev (Ev.alloc _ _), hB⟩

set_option maxRecDepth 100000 in
set_option maxHeartbeats 8000000 in
theorem bt_allowed {k : Nat} (t : TM) (tab : ByteArray) (A : Option Addr) (n cap : Nat) (r : List V) (rem : Bool) (w : World) (hT : TmAt w t) (hr : Vs w A n cap r) (hf : fitsL t.cols r = true) (hrr : rightR r = true) (hS : ZOk k t.rows) (hn : NN t.rows) (hk : k ≤ 1000) :
    Calls Tryz.prog 62 #[.agg #[.string ⟨t.name.toArray⟩, .slice t.cA t.cols.length t.cc, .slice t.rA t.rows.length t.rc], .agg #[.string tab, .slice A n cap, .bool rem]] w fun e w' => e = .returned (.int .i64 (whyC t.rows r rem)) ∧ Ev w w' := by
  obtain ⟨w0, hw0, hE0, hB, hC⟩ := bx_tch w t tab A n cap rem
  obtain ⟨⟨t0, t1, t2⟩, _⟩ := hB.three
  obtain ⟨⟨c0, c1, c2⟩, _⟩ := hC.three
  have HB := Lib.hid hB
  have HC := Lib.hid hC
  have HF := Lib.hid (fun w1 (hE : Ev w0 w1) => row_fits w1 (hT.cols.ev (hE0.trans hE)) (hr.ev (hE0.trans hE)))
  rw [hf] at HF
  have HO := Lib.hid (fun w1 (hE : Ev w0 w1) => of_in w1 (hT.rows.ev (hE0.trans hE)) hS.parts (hr.ev (hE0.trans hE)))
  have HI := Lib.hid (fun w1 (hE : Ev w0 w1) => bt_isFull w1 (hT.rows.ev (hE0.trans hE)) hS hk)
  have o0 : FloatKind.f64.format.order 0 0 = some .eq := by decide +kernel
  have HZ := Lib.hid (of_zero hS r hrr)
  have HNA := Lib.hid (hn.adds hS)
  have HPA := Lib.hid hS.parts
  have HE0 := Lib.hid hE0
  unfold whyC
  clear hB hC hE0 hT hr hf hrr hS hn
  cases rem
  · by_cases h64 : 64 ≤ netS (fun _ => 1) t.rows
    · rw [decide_eq_true h64] at HI
      simp only [Bool.false_eq_true, if_false, h64, if_true]
      go_enter Tryz.func62, Tryz.ntmps62
      go_wp2_with (first
        | ((with_reducible refine (HF.out _ (Ev.refl _)).mono ?_); rintro e w1 ⟨rfl, hE1⟩; have E1 := Lib.hid hE1; clear t0 t1 t2 c0 c1 c2 hE1; obtain ⟨⟨t0, t1, t2⟩, _⟩ := (HB.out.ev E1.out).three; obtain ⟨⟨c0, c1, c2⟩, _⟩ := (HC.out.ev E1.out).three)
        | ((with_reducible refine (HI.out _ E1.out).mono ?_); rintro e w2 ⟨rfl, hE2⟩))
      go_ret
      exact ⟨rfl, (HE0.out.trans E1.out).trans hE2⟩
    · rw [decide_eq_false h64] at HI
      simp only [Bool.false_eq_true, if_false, h64]
      go_enter Tryz.func62, Tryz.ntmps62
      go_wp2_with (first
        | ((with_reducible refine (HF.out _ (Ev.refl _)).mono ?_); rintro e w1 ⟨rfl, hE1⟩; have E1 := Lib.hid hE1; clear t0 t1 t2 c0 c1 c2 hE1; obtain ⟨⟨t0, t1, t2⟩, _⟩ := (HB.out.ev E1.out).three; obtain ⟨⟨c0, c1, c2⟩, _⟩ := (HC.out.ev E1.out).three)
        | ((with_reducible refine (HI.out _ E1.out).mono ?_); rintro e w2 ⟨rfl, hE2⟩; clear t0 t1 t2 c0 c1 c2; obtain ⟨⟨t0, t1, t2⟩, _⟩ := (HB.out.ev (E1.out.trans hE2)).three; obtain ⟨⟨c0, c1, c2⟩, _⟩ := (HC.out.ev (E1.out.trans hE2)).three))
      go_ret
      exact ⟨rfl, (HE0.out.trans E1.out).trans hE2⟩
  · rcases HZ.out with ⟨h0, hv⟩ | ⟨h0, x, hx, _, hv⟩
    · rw [hv] at HO
      simp only [if_true, h0]
      clear hv
      go_enter Tryz.func62, Tryz.ntmps62
      go_wp2_with (first
        | ((with_reducible refine (HF.out _ (Ev.refl _)).mono ?_); rintro e w1 ⟨rfl, hE1⟩; have E1 := Lib.hid hE1; clear t0 t1 t2 c0 c1 c2 hE1; obtain ⟨⟨t0, t1, t2⟩, _⟩ := (HB.out.ev E1.out).three; obtain ⟨⟨c0, c1, c2⟩, _⟩ := (HC.out.ev E1.out).three)
        | ((with_reducible refine (HO.out _ E1.out).mono ?_); rintro e w2 ⟨rfl, hE2⟩))
      go_ret
      exact ⟨rfl, (HE0.out.trans E1.out).trans hE2⟩
    · have h1 := HNA.out x hx
      have o1 : FloatKind.f64.format.order (fl x.2.1) 0 = some .gt := by
        rw [order_zero (HPA.out x hx).1, if_neg (by omega)]
      rw [h1.2] at hv
      generalize x.2.1 = p at *
      rw [hv] at HO
      simp only [if_true, h0, if_false]
      clear hv hx h1
      go_enter Tryz.func62, Tryz.ntmps62
      go_wp2_with (first
        | ((with_reducible refine (HF.out _ (Ev.refl _)).mono ?_); rintro e w1 ⟨rfl, hE1⟩; have E1 := Lib.hid hE1; clear t0 t1 t2 c0 c1 c2 hE1; obtain ⟨⟨t0, t1, t2⟩, _⟩ := (HB.out.ev E1.out).three; obtain ⟨⟨c0, c1, c2⟩, _⟩ := (HC.out.ev E1.out).three)
        | ((with_reducible refine (HO.out _ E1.out).mono ?_); rintro e w2 ⟨rfl, hE2⟩; clear t0 t1 t2 c0 c1 c2; obtain ⟨⟨t0, t1, t2⟩, _⟩ := (HB.out.ev (E1.out.trans hE2)).three; obtain ⟨⟨c0, c1, c2⟩, _⟩ := (HC.out.ev (E1.out.trans hE2)).three))
      go_ret
      exact ⟨rfl, (HE0.out.trans E1.out).trans hE2⟩

set_option maxRecDepth 100000 in
set_option maxHeartbeats 8000000 in
theorem bt_isIt (t : TM) (tab : ByteArray) (bx : Nat) (v1 v2 : Value) (q : Bool) (hq : decide ((⟨t.name.toArray⟩ : ByteArray) = tab) = q) (w : World) (hX : Bx 25 bx #[.string tab, v1, v2] w) :
    Calls Tryz.prog 61 #[.agg #[.string ⟨t.name.toArray⟩, .slice t.cA t.cols.length t.cc, .slice t.rA t.rows.length t.rc], .pointer (some ⟨bx, 0, none⟩)] w fun e w' => e = .returned (.bool q) ∧ Ev w w' := by
  obtain ⟨w0, hw0, hE0, hB⟩ : ∃ w0, w.alloc (.cells #[.string ⟨t.name.toArray⟩, .slice t.cA t.cols.length t.cc, .slice t.rA t.rows.length t.rc] 45) = w0 ∧ Ev w w0 ∧ Bx 45 w.heap.size #[.string ⟨t.name.toArray⟩, .slice t.cA t.cols.length t.cc, .slice t.rA t.rows.length t.rc] w0 := ⟨_, rfl, Ev.alloc _ _, Bx.new _ _ _⟩
  obtain ⟨⟨t0, t1, t2⟩, _⟩ := hB.three
  obtain ⟨⟨c0, c1, c2⟩, _⟩ := (hX.ev hE0).three
  have HE0 := Lib.hid hE0
  clear hB hE0 hX
  go_enter Tryz.func61, Tryz.ntmps61
  generalize (⟨t.name.toArray⟩ : ByteArray) = nm at *
  cases q
  · have hne : ¬ nm.toList = tab.toList := fun c => of_decide_eq_false hq (toList_inj c)
    go_wp2
    go_ret
    exact ⟨by simp [hne], HE0.out⟩
  · obtain rfl : nm = tab := of_decide_eq_true hq
    go_wp2
    go_ret
    exact ⟨by simp, HE0.out⟩

/-- Which of two tables it is. -/
def ixB (q0 q1 : Bool) : Int := if q0 then 0 else if q1 then 1 else -1
set_option maxRecDepth 100000 in
set_option maxHeartbeats 8000000 in
theorem bt_index (t0 t1 : TM) (tab : ByteArray) (bx : Nat) (v1 v2 : Value) (q0 q1 : Bool) (hq0 : decide ((⟨t0.name.toArray⟩ : ByteArray) = tab) = q0) (hq1 : decide ((⟨t1.name.toArray⟩ : ByteArray) = tab) = q1) (g cap : Nat) (w : World) (h : TsAt w (some ⟨g, 0, none⟩) 2 cap [t0, t1]) (hX : Bx 25 bx #[.string tab, v1, v2] w) :
    Calls Tryz.prog 60 #[.slice (some ⟨g, 0, none⟩) 2 cap, .func (.func 61) #[] #[.pointer (some ⟨bx, 0, none⟩)]] w fun e w' => e = .returned (.int .i64 (ixB q0 q1)) ∧ Ev w w' := by
  have hcl := h.sl.le
  have hcm := h.sl.max
  have HC : Hid (∀ w1, Ev w w1 → g < w1.heap.size ∧ w1.cell? ⟨g, 0, none⟩ = some (.string ⟨t0.name.toArray⟩) ∧ w1.cell? ⟨g, 1, none⟩ = some (.slice t0.cA t0.cols.length t0.cc) ∧ w1.cell? ⟨g, 2, none⟩ = some (.slice t0.rA t0.rows.length t0.rc) ∧ w1.cell? ⟨g, 3, none⟩ = some (.string ⟨t1.name.toArray⟩) ∧ w1.cell? ⟨g, 4, none⟩ = some (.slice t1.cA t1.cols.length t1.cc) ∧ w1.cell? ⟨g, 5, none⟩ = some (.slice t1.rA t1.rows.length t1.rc)) := Lib.hid (fun w1 hE => by
    obtain ⟨b, off, e, hb, c0, c1, c2⟩ := (h.ev hE).cell (i := 0) (t := t0) rfl
    obtain ⟨b', off', e', hb', c3, c4, c5⟩ := (h.ev hE).cell (i := 1) (t := t1) rfl
    injection e with e
    injection e with e1 e2 _
    injection e' with e'
    injection e' with e3 e4 _
    subst e1; subst e2; subst e3; subst e4
    simp only [Nat.zero_mul, Nat.zero_add, Nat.one_mul] at c0 c1 c2 c3 c4 c5
    exact ⟨hb, c0, c1, c2, c3, c4, c5⟩)
  have H0 := Lib.hid (fun w1 (hE : Ev w w1) => bt_isIt t0 tab bx v1 v2 q0 hq0 w1 (hX.ev hE))
  have H1 := Lib.hid (fun w1 (hE : Ev w w1) => bt_isIt t1 tab bx v1 v2 q1 hq1 w1 (hX.ev hE))
  obtain ⟨hg, c0, c1, c2, c3, c4, c5⟩ := HC.out w (Ev.refl _)
  clear h hX hq0 hq1
  unfold ixB
  go_enter Tryz.func60, Tryz.ntmps60
  go_wp2
  refine wp_loop_rounds 3 ?_
  rw [rounds_succ]
  cases q0
  · cases q1
    · go_wp2_with (first
        | ((with_reducible refine (H0.out _ (Ev.refl _)).mono ?_); rintro e w1 ⟨rfl, hE1⟩; have E1 := Lib.hid hE1; clear hE1 hg c0 c1 c2 c3 c4 c5; obtain ⟨hg, c0, c1, c2, c3, c4, c5⟩ := HC.out _ E1.out))
      rw [rounds_succ]
      go_wp2_with (first
        | ((with_reducible refine (H1.out _ E1.out).mono ?_); rintro e w2 ⟨rfl, hE2⟩; have E2 := Lib.hid (E1.out.trans hE2); clear hE2))
      rw [rounds_succ]
      go_wp2
      go_ret
      exact ⟨rfl, E2.out⟩
    · go_wp2_with (first
        | ((with_reducible refine (H0.out _ (Ev.refl _)).mono ?_); rintro e w1 ⟨rfl, hE1⟩; have E1 := Lib.hid hE1; clear hE1 hg c0 c1 c2 c3 c4 c5; obtain ⟨hg, c0, c1, c2, c3, c4, c5⟩ := HC.out _ E1.out))
      rw [rounds_succ]
      go_wp2_with (first
        | ((with_reducible refine (H1.out _ E1.out).mono ?_); rintro e w2 ⟨rfl, hE2⟩; have E2 := Lib.hid (E1.out.trans hE2); clear hE2))
      go_ret
      exact ⟨rfl, E2.out⟩
  · go_wp2_with (first
      | ((with_reducible refine (H0.out _ (Ev.refl _)).mono ?_); rintro e w1 ⟨rfl, hE1⟩))
    go_ret
    exact ⟨rfl, hE1⟩

/-- Tables in a slice of one's own. -/
structure TabSt (b g cap : Nat) (l : List TM) (w : World) : Prop where
  own : Ow 45 3 tc b w (.slice (some ⟨g, 0, none⟩) l.length cap) l
  pv : OwP PvT w (.slice (some ⟨g, 0, none⟩) l.length cap)
  each : ∀ t ∈ l, TmAt w t
theorem TabSt.ev {b g cap : Nat} {l : List TM} {w w' : World} (h : TabSt b g cap l w) (hE : Ev w w') : TabSt b g cap l w' := ⟨h.own.ev hE, h.pv.ev h.own hE, fun t ht => (h.each t ht).ev hE⟩
theorem TabSt.ts {b g cap : Nat} {l : List TM} {w : World} (h : TabSt b g cap l w) : TsAt w (some ⟨g, 0, none⟩) l.length cap l := by
  obtain ⟨A, c, e, hS, _⟩ := h.own.form encT
  injection e with e1 e2 e3
  subst e1; subst e3
  exact ⟨hS, h.each⟩
theorem TabSt.lt {b g cap : Nat} {l : List TM} {w : World} (h : TabSt b g cap l w) : b ≤ g ∧ g < w.heap.size := h.own.lt rfl
theorem TabSt.set {b g cap i : Nat} {l : List TM} {w : World} (h : TabSt b g cap l w) {t : TM} (ht : l[i]? = some t) {S : List I} {A : Option Addr} {c : Nat} (hS : SetIn S w A S.length c) : TabSt b g cap (l.set i ⟨t.name, t.cA, t.cc, t.cols, A, c, S⟩) (w.setCell ⟨g, i * 3 + 2, none⟩ (.slice A S.length c)) ∧ But [g] w (w.setCell ⟨g, i * 3 + 2, none⟩ (.slice A S.length c)) := by
  have hb : But [g] w (w.setCell ⟨g, i * 3 + 2, none⟩ (.slice A S.length c)) := But.setCell _ _ (by simp)
  have hf : foot (.slice (some ⟨g, 0, none⟩) l.length cap) = [g] := rfl
  refine ⟨⟨?_, ?_, fun x hx => ?_⟩, hb⟩
  · have h1 := Ow.set (x' := ⟨t.name, t.cA, t.cc, t.cols, A, c, S⟩) (u := .slice A S.length c) encT h.own ht (j := 2) (by omega) rfl
    rw [List.length_set]
    exact h1
  · rw [List.length_set]
    intro g' hg' cs T q hh u hu
    simp only [Value.ownBlock, Option.some.injEq] at hg'
    subst hg'
    rcases h.own.2 with ⟨e, _⟩ | ⟨g2, cap2, cur, e, _, hg2, _⟩
    · cases e
    · injection e with e _ _
      injection e with e
      injection e with e _ _
      subst e
      have h2 := ow_set_heap (i * 3 + 2) (.slice A S.length c) hg2
      rw [h2] at hh
      injection hh with hh
      injection hh with hh _ _
      subst hh
      rw [Array.toList_setIfInBounds] at hu
      rcases List.mem_or_eq_of_mem_set hu with hu | hu
      · exact h.pv _ rfl _ _ _ hg2 u hu
      · subst hu
        exact .inr ⟨_, _, _, rfl⟩
  · have hset : SetIn S (w.setCell ⟨g, i * 3 + 2, none⟩ (.slice A S.length c)) A S.length c := by
      have h3 := TmAt.grown (t := ⟨t.name, t.cA, t.cc, t.cols, A, c, S⟩) ⟨(h.each t (List.mem_of_getElem? ht)).cols, hS⟩ h.own h.pv (hf ▸ hb)
      exact h3.rows
    rcases List.mem_or_eq_of_mem_set hx with hx | hx
    · exact (h.each x hx).grown h.own h.pv (hf ▸ hb)
    · subst hx
      exact ⟨((h.each t (List.mem_of_getElem? ht)).grown h.own h.pv (hf ▸ hb)).cols, hset⟩
end Go.Proofs.YthpiobkghfdkkaaGreat

namespace Go.Proofs.YthpiobkghfdkkaaGreat
open Go.RowKit
set_option linter.unusedVariables false

/-- A change as it lies. -/
structure CM where
  tab : By
  A : Option Addr
  cap : Nat
  row : List V
  rem : Bool
def chc (x : CM) : List Value := [.string ⟨x.tab.toArray⟩, .slice x.A x.row.length x.cap, .bool x.rem]
theorem encCh : Enc 3 chc := ⟨by omega, fun _ => rfl, fun x u hu => by
  simp [chc] at hu
  rcases hu with rfl | rfl | rfl <;> rfl⟩
structure CmAt (w : World) (x : CM) : Prop where
  row : Vs w x.A x.row.length x.cap x.row
  low : ∀ ad, x.A = some ad → ad.block < w.heap.size
theorem CmAt.ev {w w' : World} {x : CM} (h : CmAt w x) (hE : Ev w w') : CmAt w' x := ⟨h.row.ev hE, fun ad ea => Nat.lt_of_lt_of_le (h.low ad ea) hE.size⟩
structure ChsAt (w : World) (A : Option Addr) (n cap : Nat) (l : List CM) : Prop where
  sl : Sl 3 chc w A n cap l
  each : ∀ x ∈ l, CmAt w x
theorem ChsAt.ev {w w' : World} {A : Option Addr} {n cap : Nat} {l : List CM} (h : ChsAt w A n cap l) (hE : Ev w w') : ChsAt w' A n cap l := ⟨h.sl.ev hE, fun t ht => (h.each t ht).ev hE⟩
theorem ChsAt.cell {w : World} {A : Option Addr} {n cap : Nat} {l : List CM} (h : ChsAt w A n cap l) {i : Nat} {x : CM} (hx : l[i]? = some x) : ∃ b off, A = some ⟨b, off, none⟩ ∧ b < w.heap.size ∧ w.cell? ⟨b, off + i * 3, none⟩ = some (.string ⟨x.tab.toArray⟩) ∧ w.cell? ⟨b, off + i * 3 + 1, none⟩ = some (.slice x.A x.row.length x.cap) ∧ w.cell? ⟨b, off + i * 3 + 2, none⟩ = some (.bool x.rem) := by
  have hi := (List.getElem?_eq_some_iff.1 hx).1
  have hl := h.sl.len
  obtain ⟨b, off, e, hlt, hc⟩ := h.sl.rd (by omega)
  exact ⟨b, off, e, hlt, hc i x hx 0 _ rfl, hc i x hx 1 _ rfl, hc i x hx 2 _ rfl⟩
theorem run_load_tabv {ρ : Operand → Value} {o : Oper} {x : Operand} {b off : Nat} {w : World} (t : TM) (ho : o.op = .load 45 x) (hx : ρ x = .pointer (some ⟨b, off, none⟩))
    (c0 : w.cell? ⟨b, off, none⟩ = some (.string ⟨t.name.toArray⟩)) (c1 : w.cell? ⟨b, off + 1, none⟩ = some (.slice t.cA t.cols.length t.cc)) (c2 : w.cell? ⟨b, off + 2, none⟩ = some (.slice t.rA t.rows.length t.rc)) :
    (execOp ρ o).run Tryz.prog w = .ok (.value (.agg #[.string ⟨t.name.toArray⟩, .slice t.cA t.cols.length t.cc, .slice t.rA t.rows.length t.rc])) w := by
  unfold execOp
  rw [ho]
  simp [hx, go_sem, c0, c1, c2]
theorem run_load_chg {ρ : Operand → Value} {o : Oper} {x : Operand} {b off : Nat} {w : World} (y : CM) (ho : o.op = .load 25 x) (hx : ρ x = .pointer (some ⟨b, off, none⟩))
    (c0 : w.cell? ⟨b, off, none⟩ = some (.string ⟨y.tab.toArray⟩)) (c1 : w.cell? ⟨b, off + 1, none⟩ = some (.slice y.A y.row.length y.cap)) (c2 : w.cell? ⟨b, off + 2, none⟩ = some (.bool y.rem)) :
    (execOp ρ o).run Tryz.prog w = .ok (.value (.agg #[.string ⟨y.tab.toArray⟩, .slice y.A y.row.length y.cap, .bool y.rem])) w := by
  unfold execOp
  rw [ho]
  simp [hx, go_sem, c0, c1, c2]
/-- A literal of one item. -/
theorem item_one (y : CM) (w : World) (h : CmAt w y) : SetIn [oneI y.row y.rem] (w.alloc (.cells #[.slice y.A y.row.length y.cap, .complex .f64 (fl (oneP y.rem)) (fl (oneQ y.rem))] 62)) (some ⟨w.heap.size, 0, none⟩) 1 1 :=
  SetIn.made [((y.A, y.row.length, y.cap), oneI y.row y.rem)] 1 rfl (by decide) w _ (by simp [jcells, jrow, jtal, oneI]) (fun z hz => by
    rw [List.mem_singleton.1 hz]
    exact ⟨h.row, h.low⟩) _ rfl
/-- The tables behind a change. -/
def newT (t : TM) (A : Option Addr) (c : Nat) (S : List I) : TM := ⟨t.name, t.cA, t.cc, t.cols, A, c, S⟩
def ChgOut (b g cap : Nat) (l : List TM) (i : Nat) (t : TM) (why : Int) (S : List I) (w : World) (e : Ending) (w' : World) : Prop :=
  e = .returned (.int .i64 why) ∧ ((why ≠ 0 ∧ Ev w w') ∨ (why = 0 ∧ ∃ A c, TabSt b g cap (l.set i (newT t A c S)) w' ∧ But [g] w w'))

theorem tab_cells {g cap : Nat} {t0 t1 : TM} {w : World} (h : TsAt w (some ⟨g, 0, none⟩) 2 cap [t0, t1]) : g < w.heap.size ∧ w.cell? ⟨g, 0, none⟩ = some (.string ⟨t0.name.toArray⟩) ∧ w.cell? ⟨g, 1, none⟩ = some (.slice t0.cA t0.cols.length t0.cc) ∧ w.cell? ⟨g, 2, none⟩ = some (.slice t0.rA t0.rows.length t0.rc) ∧ w.cell? ⟨g, 3, none⟩ = some (.string ⟨t1.name.toArray⟩) ∧ w.cell? ⟨g, 4, none⟩ = some (.slice t1.cA t1.cols.length t1.cc) ∧ w.cell? ⟨g, 5, none⟩ = some (.slice t1.rA t1.rows.length t1.rc) := by
  obtain ⟨b, off, e, hb, c0, c1, c2⟩ := h.cell (i := 0) (t := t0) rfl
  obtain ⟨b', off', e', hb', c3, c4, c5⟩ := h.cell (i := 1) (t := t1) rfl
  injection e with e
  injection e with e1 e2 _
  injection e' with e'
  injection e' with e3 e4 _
  subst e1; subst e2; subst e3; subst e4
  simp only [Nat.zero_mul, Nat.zero_add, Nat.one_mul] at c0 c1 c2 c3 c4 c5
  exact ⟨hb, c0, c1, c2, c3, c4, c5⟩
theorem tab_frozen {b g cap : Nat} {l : List TM} {w : World} (h : TabSt b g cap l w) (i : Nat) : w.frozen? ⟨g, i, none⟩ = false := by
  obtain ⟨A, c, e, _, hA⟩ := h.own.form encT
  injection e with e1 _ _
  exact (hA _ e1.symm).2.2.2.2 i
def SetF2 (S : List I) (v : Value) (w : World) : Prop := ∃ A c, v = .slice A S.length c ∧ SetIn S w A S.length c
theorem SetF2.mono (S : List I) : Mono (SetF2 S) := fun v w w' hE ⟨A, c, e, h⟩ => ⟨A, c, e, h.ev hE⟩

set_option maxRecDepth 100000 in
set_option maxHeartbeats 8000000 in
theorem bt_change0 {k : Nat} (b g cap : Nat) (t0 t1 : TM) (y : CM) (q0 q1 : Bool) (hq0 : decide ((⟨t0.name.toArray⟩ : ByteArray) = ⟨y.tab.toArray⟩) = q0) (hq1 : decide ((⟨t1.name.toArray⟩ : ByteArray) = ⟨y.tab.toArray⟩) = q1) (hix : ixB q0 q1 = 0) (w : World) (h : TabSt b g cap [t0, t1] w) (hy : CmAt w y) (hf : fitsL t0.cols y.row = true) (hrr : rightR y.row = true) (hZ : ZOk k t0.rows) (hnn : NN t0.rows) (hk : k ≤ 1000)
    (hlen : t0.rows.length ≤ 100000) (hta : ∀ x ∈ t0.rows ++ [oneI y.row y.rem], TallyAs x.2.1 x.2.2) (S' : List I) (hS : makeI (t0.rows ++ [oneI y.row y.rem]) = (0, S')) :
    Calls Tryz.prog 34 #[.slice (some ⟨g, 0, none⟩) 2 cap, .agg #[.string ⟨y.tab.toArray⟩, .slice y.A y.row.length y.cap, .bool y.rem]] w (ChgOut b g cap [t0, t1] 0 t0 (whyC t0.rows y.row y.rem) S' w) := by
  obtain ⟨w0, hw0, hE0, hX⟩ : ∃ w0, w.alloc (.cells #[.string ⟨y.tab.toArray⟩, .slice y.A y.row.length y.cap, .bool y.rem] 25) = w0 ∧ Ev w w0 ∧ Bx 25 w.heap.size #[.string ⟨y.tab.toArray⟩, .slice y.A y.row.length y.cap, .bool y.rem] w0 := ⟨_, rfl, Ev.alloc _ _, Bx.new _ _ _⟩
  have hmix : Tryz.prog.follows .mixedOrders = true := by kernel_rfl
  have hmf : ∀ (fn : Fn) (first cap : Array Value) (w : World), (Instr.makeFunc fn first cap).run Tryz.prog w = .ok (.func fn first cap) w := fun _ _ _ _ => rfl
  have HIX := Lib.hid (bt_index t0 t1 ⟨y.tab.toArray⟩ w.heap.size (.slice y.A y.row.length y.cap) (.bool y.rem) q0 q1 hq0 hq1 g cap w0 (h.ev hE0).ts hX)
  rw [hix] at HIX
  have HAL := Lib.hid (fun w1 (hE : Ev w0 w1) => bt_allowed t0 ⟨y.tab.toArray⟩ y.A y.row.length y.cap y.row y.rem w1 ((h.each t0 (by simp)).ev (hE0.trans hE)) (hy.row.ev (hE0.trans hE)) hf hrr hZ hnn hk)
  have HSM := Lib.hid (fun (B : Option Addr) (n1 c1 : Nat) w1 (hE : Ev w0 w1) (hB : SetIn [oneI y.row y.rem] w1 B n1 c1) => bt_sum w1 (((h.each t0 (by simp)).ev (hE0.trans hE)).rows) hB (by have := hlen; omega) (by have := hB.len; simp at this; omega) hta hS)
  have HIT := Lib.hid (fun w1 => bt_item ⟨y.tab.toArray⟩ y.rem y.A y.row.length y.cap w1)
  have HY := Lib.hid (hy.ev hE0)
  have HT := Lib.hid (h.ev hE0)
  have HE0 := Lib.hid hE0
  have HX := Lib.hid hX
  have hwy : whyC t0.rows y.row y.rem = whyC t0.rows y.row y.rem := rfl
  generalize whyC t0.rows y.row y.rem = why at *
  have hcl := h.ts.sl.le
  have hcm := h.ts.sl.max
  have hcl2 : 2 ≤ cap := hcl
  unfold SetOutN at HSM
  clear hX hE0 hy h hq0 hq1 hix hf hrr hZ hnn hk hS hta hlen hwy hcl
  go_enter Tryz.func34, Tryz.ntmps34
  go_upto_region 4 with (first
    | ((with_reducible refine (HIX.out).mono ?_); rintro e w1 ⟨rfl, hE1⟩; have E1 := Lib.hid hE1; clear hE1))
  have HCE : Hid (g < w1.heap.size ∧ w1.cell? ⟨g, 0, none⟩ = some (.string ⟨t0.name.toArray⟩) ∧ w1.cell? ⟨g, 1, none⟩ = some (.slice t0.cA t0.cols.length t0.cc) ∧ w1.cell? ⟨g, 2, none⟩ = some (.slice t0.rA t0.rows.length t0.rc) ∧ w1.cell? ⟨g, 3, none⟩ = some (.string ⟨t1.name.toArray⟩) ∧ w1.cell? ⟨g, 4, none⟩ = some (.slice t1.cA t1.cols.length t1.cc) ∧ w1.cell? ⟨g, 5, none⟩ = some (.slice t1.rA t1.rows.length t1.rc)) := Lib.hid (tab_cells (HT.out.ev E1.out).ts)
  obtain ⟨hg, c0, c1, c2, c3, c4, c5⟩ := HCE.out
  have HX1 := Lib.hid (HX.out.ev E1.out)
  refine wp_region_slots hmix [fun v _ => v = .slice (some ⟨g, 0, none⟩) 2 cap, fun v _ => v = .int .i64 0, fun v _ => v = .pointer (some ⟨g, 0, none⟩), fun v _ => v = .agg #[.string ⟨t0.name.toArray⟩, .slice t0.cA t0.cols.length t0.cc, .slice t0.rA t0.rows.length t0.rc], fun v _ => v = .agg #[.string ⟨y.tab.toArray⟩, .slice y.A y.row.length y.cap, .bool y.rem], fun v _ => v = .int .i64 why, fun v _ => v = .int .i64 why]
    34 rfl (by kernel_rfl) ⟨mono_eq _, mono_eq _, mono_eq _, mono_eq _, mono_eq _, mono_eq _, mono_eq _, trivial⟩ ?_ ?_
  · refine ops_cons 0 ?_ (ops_cons 1 ?_ (ops_cons 2 ?_ (ops_cons 3 ?_ (ops_cons 4 ?_ (ops_cons 5 ?_ (ops_cons 6 ?_ (ops_nil 7)))))))
    · refine op_value fun a wq c => ⟨(wanted_plain rfl), _, run_move _ rfl wq, (c.was 0 (by kernel_rfl) rfl)⟩
    · refine op_value fun a wq c => ⟨(wanted_plain rfl), _, run_move _ rfl wq, (c.was 5 (by kernel_rfl) rfl)⟩
    · refine op_value fun a wq c => ⟨(wanted_plain rfl), .pointer (some ⟨g, 0, none⟩), ?_, rfl⟩
      have e12 : a.eval (.tmp 12) = .slice (some ⟨g, 0, none⟩) 2 cap := (c.new 0 12 (by kernel_rfl) (by kernel_rfl))
      have e13 : a.eval (.tmp 13) = .int .i64 0 := (c.new 1 13 (by kernel_rfl) (by kernel_rfl))
      generalize a.eval = ρ at e12 e13 ⊢
      simp [execOp, e12, e13, go_sem]
    · refine op_value fun a wq c => ⟨(wanted_plain rfl), _, run_load_tabv t0 rfl (c.new 2 14 (by kernel_rfl) (by kernel_rfl)) ((c.ev.cell (p := ⟨_, _, none⟩) hg).trans c0) ((c.ev.cell (p := ⟨_, _, none⟩) hg).trans c1) ((c.ev.cell (p := ⟨_, _, none⟩) hg).trans c2), rfl⟩
    · refine op_value fun a wq c => ⟨(wanted_plain rfl), _, run_load_chg y rfl (c.was 3 (by kernel_rfl) rfl) (((HX1.out.ev c.ev).three).1.1) (((HX1.out.ev c.ev).three).1.2.1) (((HX1.out.ev c.ev).three).1.2.2), rfl⟩
    · refine op_call fun a wq c => ⟨(wanted_plain rfl), 62, #[.agg #[.string ⟨t0.name.toArray⟩, .slice t0.cA t0.cols.length t0.cc, .slice t0.rA t0.rows.length t0.rc], .agg #[.string ⟨y.tab.toArray⟩, .slice y.A y.row.length y.cap, .bool y.rem]], ?_, ?_⟩
      · rw [run_call 62 _ _ rfl (by kernel_rfl)]
        have e15 : a.eval (.tmp 15) = .agg #[.string ⟨t0.name.toArray⟩, .slice t0.cA t0.cols.length t0.cc, .slice t0.rA t0.rows.length t0.rc] := (c.new 3 15 (by kernel_rfl) (by kernel_rfl))
        have e16 : a.eval (.tmp 16) = .agg #[.string ⟨y.tab.toArray⟩, .slice y.A y.row.length y.cap, .bool y.rem] := (c.new 4 16 (by kernel_rfl) (by kernel_rfl))
        simp [e15, e16]
      · refine (HAL.out _ (E1.out.trans c.ev)).mono ?_
        rintro e wp ⟨rfl, hE_⟩
        exact ⟨_, rfl, hE_, rfl⟩
    · refine op_value fun a wq c => ⟨(wanted_plain rfl), _, run_assign _ rfl wq, (c.new 5 17 (by kernel_rfl) (by kernel_rfl))⟩
  intro s w4 hE hold hnew
  have f0 : s 0 = .slice (some ⟨g, 0, none⟩) 2 cap := hold 0 (by kernel_rfl)
  have f2 : s 2 = undef := hold 2 (by kernel_rfl)
  have f3 : s 3 = .pointer (some ⟨w.heap.size, 0, none⟩) := hold 3 (by kernel_rfl)
  have f4 : s 4 = .int .i64 0 := hold 4 (by kernel_rfl)
  have f5 : s 5 = .int .i64 0 := hold 5 (by kernel_rfl)
  have f6 : s 6 = .int .i64 why := hnew 6 6 (by kernel_rfl)
  have f12 : s 12 = .slice (some ⟨g, 0, none⟩) 2 cap := hnew 0 12 (by kernel_rfl)
  have f13 : s 13 = .int .i64 0 := hnew 1 13 (by kernel_rfl)
  have f14 : s 14 = .pointer (some ⟨g, 0, none⟩) := hnew 2 14 (by kernel_rfl)
  have f15 : s 15 = .agg #[.string ⟨t0.name.toArray⟩, .slice t0.cA t0.cols.length t0.cc, .slice t0.rA t0.rows.length t0.rc] := hnew 3 15 (by kernel_rfl)
  have f16 : s 16 = .agg #[.string ⟨y.tab.toArray⟩, .slice y.A y.row.length y.cap, .bool y.rem] := hnew 4 16 (by kernel_rfl)
  have f17 : s 17 = .int .i64 why := hnew 5 17 (by kernel_rfl)
  change Exit.then _ _ .normal ⟨#[s 0, s 1, s 2, s 3, s 4, s 5, s 6, s 7, s 8, s 9, s 10, s 11, s 12, s 13, s 14, s 15, s 16, s 17, s 18, s 19, s 20, s 21, s 22, s 23, s 24, s 25, s 26, s 27, s 28, s 29, s 30, s 31, s 32, s 33], _⟩ _
  simp only [f0, f2, f3, f4, f5, f6, f12, f13, f14, f15, f16, f17]
  clear hold hnew
  generalize s 1 = u1
  generalize s 7 = u7
  generalize s 8 = u8
  generalize s 9 = u9
  generalize s 10 = u10
  generalize s 11 = u11
  generalize s 18 = u18
  generalize s 19 = u19
  generalize s 20 = u20
  generalize s 21 = u21
  generalize s 22 = u22
  generalize s 23 = u23
  generalize s 24 = u24
  generalize s 25 = u25
  generalize s 26 = u26
  generalize s 27 = u27
  generalize s 28 = u28
  generalize s 29 = u29
  generalize s 30 = u30
  generalize s 31 = u31
  generalize s 32 = u32
  generalize s 33 = u33
  have E4 := Lib.hid (E1.out.trans hE)
  clear hE hg c0 c1 c2 c3 c4 c5 HCE HX1
  by_cases hw0' : why = 0
  · subst hw0'
    go_upto_region 6 with fail
    have HCE : Hid (g < w4.heap.size ∧ w4.cell? ⟨g, 0, none⟩ = some (.string ⟨t0.name.toArray⟩) ∧ w4.cell? ⟨g, 1, none⟩ = some (.slice t0.cA t0.cols.length t0.cc) ∧ w4.cell? ⟨g, 2, none⟩ = some (.slice t0.rA t0.rows.length t0.rc) ∧ w4.cell? ⟨g, 3, none⟩ = some (.string ⟨t1.name.toArray⟩) ∧ w4.cell? ⟨g, 4, none⟩ = some (.slice t1.cA t1.cols.length t1.cc) ∧ w4.cell? ⟨g, 5, none⟩ = some (.slice t1.rA t1.rows.length t1.rc)) := Lib.hid (tab_cells (HT.out.ev E4.out).ts)
    obtain ⟨hg, c0, c1, c2, c3, c4, c5⟩ := HCE.out
    have HX4 := Lib.hid (HX.out.ev E4.out)
    have HY4 := Lib.hid (HY.out.ev E4.out)
    have HFZ : Hid (∀ i, w4.frozen? ⟨g, i, none⟩ = false) := Lib.hid (tab_frozen (HT.out.ev E4.out))
    refine wp_region_lastE hmix [fun v _ => v = .slice (some ⟨g, 0, none⟩) 2 cap, fun v _ => v = .int .i64 0, fun v _ => v = .slice (some ⟨g, 0, none⟩) 2 cap, fun v _ => v = .int .i64 0, fun v _ => v = .pointer (some ⟨g, 0, none⟩), fun v _ => v = .pointer (some ⟨g, 2, none⟩), fun v _ => v = .slice t0.rA t0.rows.length t0.rc, fun v _ => v = .agg #[.string ⟨y.tab.toArray⟩, .slice y.A y.row.length y.cap, .bool y.rem], fun v _ => v = .agg #[.slice y.A y.row.length y.cap, .complex .f64 (fl (oneP y.rem)) (fl (oneQ y.rem))], SetF [oneI y.row y.rem], SetF2 S', fun v _ => v = .pointer (some ⟨g, 0, none⟩), fun v _ => v = .pointer (some ⟨g, 2, none⟩)]
      34 rfl 13 _ rfl rfl (by kernel_rfl) (by kernel_rfl) ⟨mono_eq _, mono_eq _, mono_eq _, mono_eq _, mono_eq _, mono_eq _, mono_eq _, mono_eq _, mono_eq _, SetF.mono _, SetF2.mono _, mono_eq _, mono_eq _, trivial⟩ (opsb_start ?_) ?_
    · refine opsb_cons 0 ?_ (opsb_cons 1 ?_ (opsb_cons 2 ?_ (opsb_cons 3 ?_ (opsb_cons 4 ?_ (opsb_cons 5 ?_ (opsb_cons 6 ?_ (opsb_cons 7 ?_ (opsb_cons 8 ?_ (opsb_cons 9 ?_ (opsb_cons 10 ?_ (opsb_cons 11 ?_ (opsb_cons 12 ?_ (opsb_nil 13 _ (by omega))))))))))))))
      · refine op_value fun a wq c => ⟨(wanted_plain rfl), _, run_move _ rfl wq, (c.was 0 (by kernel_rfl) rfl)⟩
      · refine op_value fun a wq c => ⟨(wanted_plain rfl), _, run_move _ rfl wq, (c.was 5 (by kernel_rfl) rfl)⟩
      · refine op_value fun a wq c => ⟨(wanted_plain rfl), _, run_move _ rfl wq, (c.was 0 (by kernel_rfl) rfl)⟩
      · refine op_value fun a wq c => ⟨(wanted_plain rfl), _, run_move _ rfl wq, (c.was 5 (by kernel_rfl) rfl)⟩
      · refine op_value fun a wq c => ⟨(wanted_plain rfl), .pointer (some ⟨g, 0, none⟩), ?_, rfl⟩
        have e22 : a.eval (.tmp 22) = .slice (some ⟨g, 0, none⟩) 2 cap := (c.new 2 22 (by kernel_rfl) (by kernel_rfl))
        have e23 : a.eval (.tmp 23) = .int .i64 0 := (c.new 3 23 (by kernel_rfl) (by kernel_rfl))
        generalize a.eval = ρ at e22 e23 ⊢
        simp [execOp, e22, e23, go_sem]
      · refine op_value fun a wq c => ⟨(wanted_plain rfl), .pointer (some ⟨g, 2, none⟩), ?_, rfl⟩
        have e24 : a.eval (.tmp 24) = .pointer (some ⟨g, 0, none⟩) := (c.new 4 24 (by kernel_rfl) (by kernel_rfl))
        generalize a.eval = ρ at e24 ⊢
        simp [execOp, e24, go_sem]
      · refine op_value fun a wq c => ⟨(wanted_plain rfl), _, ?_, rfl⟩
        have e_0 : a.eval (.tmp 25) = .pointer (some ⟨g, 2, none⟩) := (c.new 5 25 (by kernel_rfl) (by kernel_rfl))
        have hc := (c.ev.cell (p := ⟨g, 2, none⟩) hg).trans c2
        generalize a.eval = ρ at e_0 ⊢
        simp [execOp, e_0, hc, go_sem]
      · refine op_value fun a wq c => ⟨(wanted_plain rfl), _, run_load_chg y rfl (c.was 3 (by kernel_rfl) rfl) (((HX4.out.ev c.ev).three).1.1) (((HX4.out.ev c.ev).three).1.2.1) (((HX4.out.ev c.ev).three).1.2.2), rfl⟩
      · refine op_call fun a wq c => ⟨(wanted_plain rfl), 63, #[.agg #[.string ⟨y.tab.toArray⟩, .slice y.A y.row.length y.cap, .bool y.rem]], ?_, ?_⟩
        · rw [run_call 63 _ _ rfl (by kernel_rfl)]
          have e27 : a.eval (.tmp 27) = .agg #[.string ⟨y.tab.toArray⟩, .slice y.A y.row.length y.cap, .bool y.rem] := (c.new 7 27 (by kernel_rfl) (by kernel_rfl))
          simp [e27]
        · refine (HIT.out wq).mono ?_
          rintro e wp ⟨rfl, hE_⟩
          exact ⟨_, rfl, hE_, rfl⟩
      · refine op_makes fun a wq c => ?_
        have e_0 : a.eval (.tmp 28) = .agg #[.slice y.A y.row.length y.cap, .complex .f64 (fl (oneP y.rem)) (fl (oneQ y.rem))] := (c.new 8 28 (by kernel_rfl) (by kernel_rfl))
        refine ⟨(wanted_plain rfl), .slice (some ⟨wq.heap.size, 0, none⟩) 1 1, wq.alloc (.cells #[.slice y.A y.row.length y.cap, .complex .f64 (fl (oneP y.rem)) (fl (oneQ y.rem))] 62), ?_, Ev.alloc _ _, _, _, _, rfl, item_one y wq (HY4.out.ev c.ev)⟩
        generalize a.eval = ρ at e_0 ⊢
        simp [execOp, e_0, go_sem]
      · refine op_call fun a wq c => ?_
        obtain ⟨B, n1, c1, e_1, hB⟩ : SetF [oneI y.row y.rem] (a.eval (.tmp 29)) wq := (c.new 9 29 (by kernel_rfl) (by kernel_rfl))
        have e_0 : a.eval (.tmp 26) = .slice t0.rA t0.rows.length t0.rc := (c.new 6 26 (by kernel_rfl) (by kernel_rfl))
        refine ⟨(wanted_plain rfl), 59, #[.slice t0.rA t0.rows.length t0.rc, .slice B n1 c1], ?_, ?_⟩
        · rw [run_call 59 _ _ rfl (by kernel_rfl)]
          simp [e_0, e_1]
        · refine (HSM.out B n1 c1 wq (E4.out.trans c.ev) hB).mono ?_
          rintro e wp ⟨A', c', rfl, hS', hE_⟩
          exact ⟨_, rfl, hE_, A', c', rfl, hS'.in_⟩
      · refine op_value fun a wq c => ⟨(wanted_plain rfl), .pointer (some ⟨g, 0, none⟩), ?_, rfl⟩
        have e20 : a.eval (.tmp 20) = .slice (some ⟨g, 0, none⟩) 2 cap := (c.new 0 20 (by kernel_rfl) (by kernel_rfl))
        have e21 : a.eval (.tmp 21) = .int .i64 0 := (c.new 1 21 (by kernel_rfl) (by kernel_rfl))
        generalize a.eval = ρ at e20 e21 ⊢
        simp [execOp, e20, e21, go_sem]
      · refine op_value fun a wq c => ⟨(wanted_plain rfl), .pointer (some ⟨g, 2, none⟩), ?_, rfl⟩
        have e31 : a.eval (.tmp 31) = .pointer (some ⟨g, 0, none⟩) := (c.new 11 31 (by kernel_rfl) (by kernel_rfl))
        generalize a.eval = ρ at e31 ⊢
        simp [execOp, e31, go_sem]
    intro s w6 hE hold hnew
    have f0 : s 0 = .slice (some ⟨g, 0, none⟩) 2 cap := hold 0 (by kernel_rfl)
    have f2 : s 2 = undef := hold 2 (by kernel_rfl)
    have f3 : s 3 = .pointer (some ⟨w.heap.size, 0, none⟩) := hold 3 (by kernel_rfl)
    have f4 : s 4 = .int .i64 0 := hold 4 (by kernel_rfl)
    have f5 : s 5 = .int .i64 0 := hold 5 (by kernel_rfl)
    have f6 : s 6 = .int .i64 0 := hold 6 (by kernel_rfl)
    have f20 : s 20 = .slice (some ⟨g, 0, none⟩) 2 cap := hnew 0 20 (by omega) (by kernel_rfl)
    have f21 : s 21 = .int .i64 0 := hnew 1 21 (by omega) (by kernel_rfl)
    have f22 : s 22 = .slice (some ⟨g, 0, none⟩) 2 cap := hnew 2 22 (by omega) (by kernel_rfl)
    have f23 : s 23 = .int .i64 0 := hnew 3 23 (by omega) (by kernel_rfl)
    have f24 : s 24 = .pointer (some ⟨g, 0, none⟩) := hnew 4 24 (by omega) (by kernel_rfl)
    have f25 : s 25 = .pointer (some ⟨g, 2, none⟩) := hnew 5 25 (by omega) (by kernel_rfl)
    have f26 : s 26 = .slice t0.rA t0.rows.length t0.rc := hnew 6 26 (by omega) (by kernel_rfl)
    have f27 : s 27 = .agg #[.string ⟨y.tab.toArray⟩, .slice y.A y.row.length y.cap, .bool y.rem] := hnew 7 27 (by omega) (by kernel_rfl)
    have f28 : s 28 = .agg #[.slice y.A y.row.length y.cap, .complex .f64 (fl (oneP y.rem)) (fl (oneQ y.rem))] := hnew 8 28 (by omega) (by kernel_rfl)
    have f31 : s 31 = .pointer (some ⟨g, 0, none⟩) := hnew 11 31 (by omega) (by kernel_rfl)
    have f32 : s 32 = .pointer (some ⟨g, 2, none⟩) := hnew 12 32 (by omega) (by kernel_rfl)
    obtain ⟨A', c', f30, hS'⟩ := (hnew 10 30 (by omega) (by kernel_rfl) : SetF2 S' (s 30) w6)
    have hcell_ := (hE.cell (p := ⟨g, 2, none⟩) hg).trans c2
    have hfz := (hE.frozen (p := ⟨g, 2, none⟩) hg).trans (HFZ.out 2)
    refine ⟨wanted_plain rfl, wp_of_skip (w' := w6.setCell ⟨g, 2, none⟩ (.slice A' S'.length c')) ?_ ?_⟩
    · change (execOp (Act.eval ⟨#[s 0, s 1, s 2, s 3, s 4, s 5, s 6, s 7, s 8, s 9, s 10, s 11, s 12, s 13, s 14, s 15, s 16, s 17, s 18, s 19, s 20, s 21, s 22, s 23, s 24, s 25, s 26, s 27, s 28, s 29, s 30, s 31, s 32, s 33], _⟩) ⟨none, .store 41 (.tmp 32) (.tmp 30), _, _, _, _⟩).run _ _ = _
      simp [execOp, f32, f30, go_sem, hcell_, hfz]
    change Exit.then _ _ .normal ⟨#[s 0, s 1, s 2, s 3, s 4, s 5, s 6, s 7, s 8, s 9, s 10, s 11, s 12, s 13, s 14, s 15, s 16, s 17, s 18, s 19, s 20, s 21, s 22, s 23, s 24, s 25, s 26, s 27, s 28, s 29, s 30, s 31, s 32, s 33], _⟩ _
    simp only [f0, f2, f3, f4, f5, f6, f20, f21, f22, f23, f24, f25, f26, f27, f28, f31, f32]
    clear hold hnew
    generalize s 1 = u1
    generalize s 7 = u7
    generalize s 8 = u8
    generalize s 9 = u9
    generalize s 10 = u10
    generalize s 11 = u11
    generalize s 12 = u12
    generalize s 13 = u13
    generalize s 14 = u14
    generalize s 15 = u15
    generalize s 16 = u16
    generalize s 17 = u17
    generalize s 18 = u18
    generalize s 19 = u19
    generalize s 33 = u33
    obtain ⟨hT6, hB6⟩ := (HT.out.ev (E4.out.trans hE)).set (i := 0) (t := t0) rfl hS'
    have HT6 := Lib.hid hT6
    have HB6 := Lib.hid ((But.of_ev (K := [g]) (HE0.out.trans (E4.out.trans hE))).then hB6)
    clear hT6 hB6 hcell_ hfz hE hS'
    go_wp2
    go_ret
    unfold ChgOut
    exact ⟨rfl, .inr ⟨rfl, _, _, HT6.out, HB6.out⟩⟩
  · go_wp2
    go_ret
    unfold ChgOut
    exact ⟨rfl, .inl ⟨hw0', HE0.out.trans E4.out⟩⟩

set_option maxRecDepth 100000 in
set_option maxHeartbeats 8000000 in
theorem bt_change1 {k : Nat} (b g cap : Nat) (t0 t1 : TM) (y : CM) (q0 q1 : Bool) (hq0 : decide ((⟨t0.name.toArray⟩ : ByteArray) = ⟨y.tab.toArray⟩) = q0) (hq1 : decide ((⟨t1.name.toArray⟩ : ByteArray) = ⟨y.tab.toArray⟩) = q1) (hix : ixB q0 q1 = 1) (w : World) (h : TabSt b g cap [t0, t1] w) (hy : CmAt w y) (hf : fitsL t1.cols y.row = true) (hrr : rightR y.row = true) (hZ : ZOk k t1.rows) (hnn : NN t1.rows) (hk : k ≤ 1000)
    (hlen : t1.rows.length ≤ 100000) (hta : ∀ x ∈ t1.rows ++ [oneI y.row y.rem], TallyAs x.2.1 x.2.2) (S' : List I) (hS : makeI (t1.rows ++ [oneI y.row y.rem]) = (0, S')) :
    Calls Tryz.prog 34 #[.slice (some ⟨g, 0, none⟩) 2 cap, .agg #[.string ⟨y.tab.toArray⟩, .slice y.A y.row.length y.cap, .bool y.rem]] w (ChgOut b g cap [t0, t1] 1 t1 (whyC t1.rows y.row y.rem) S' w) := by
  obtain ⟨w0, hw0, hE0, hX⟩ : ∃ w0, w.alloc (.cells #[.string ⟨y.tab.toArray⟩, .slice y.A y.row.length y.cap, .bool y.rem] 25) = w0 ∧ Ev w w0 ∧ Bx 25 w.heap.size #[.string ⟨y.tab.toArray⟩, .slice y.A y.row.length y.cap, .bool y.rem] w0 := ⟨_, rfl, Ev.alloc _ _, Bx.new _ _ _⟩
  have hmix : Tryz.prog.follows .mixedOrders = true := by kernel_rfl
  have hmf : ∀ (fn : Fn) (first cap : Array Value) (w : World), (Instr.makeFunc fn first cap).run Tryz.prog w = .ok (.func fn first cap) w := fun _ _ _ _ => rfl
  have HIX := Lib.hid (bt_index t0 t1 ⟨y.tab.toArray⟩ w.heap.size (.slice y.A y.row.length y.cap) (.bool y.rem) q0 q1 hq0 hq1 g cap w0 (h.ev hE0).ts hX)
  rw [hix] at HIX
  have HAL := Lib.hid (fun w1 (hE : Ev w0 w1) => bt_allowed t1 ⟨y.tab.toArray⟩ y.A y.row.length y.cap y.row y.rem w1 ((h.each t1 (by simp)).ev (hE0.trans hE)) (hy.row.ev (hE0.trans hE)) hf hrr hZ hnn hk)
  have HSM := Lib.hid (fun (B : Option Addr) (n1 c1 : Nat) w1 (hE : Ev w0 w1) (hB : SetIn [oneI y.row y.rem] w1 B n1 c1) => bt_sum w1 (((h.each t1 (by simp)).ev (hE0.trans hE)).rows) hB (by have := hlen; omega) (by have := hB.len; simp at this; omega) hta hS)
  have HIT := Lib.hid (fun w1 => bt_item ⟨y.tab.toArray⟩ y.rem y.A y.row.length y.cap w1)
  have HY := Lib.hid (hy.ev hE0)
  have HT := Lib.hid (h.ev hE0)
  have HE0 := Lib.hid hE0
  have HX := Lib.hid hX
  have hwy : whyC t1.rows y.row y.rem = whyC t1.rows y.row y.rem := rfl
  generalize whyC t1.rows y.row y.rem = why at *
  have hcl := h.ts.sl.le
  have hcm := h.ts.sl.max
  have hcl2 : 2 ≤ cap := hcl
  unfold SetOutN at HSM
  clear hX hE0 hy h hq0 hq1 hix hf hrr hZ hnn hk hS hta hlen hwy hcl
  go_enter Tryz.func34, Tryz.ntmps34
  go_upto_region 4 with (first
    | ((with_reducible refine (HIX.out).mono ?_); rintro e w1 ⟨rfl, hE1⟩; have E1 := Lib.hid hE1; clear hE1))
  have HCE : Hid (g < w1.heap.size ∧ w1.cell? ⟨g, 0, none⟩ = some (.string ⟨t0.name.toArray⟩) ∧ w1.cell? ⟨g, 1, none⟩ = some (.slice t0.cA t0.cols.length t0.cc) ∧ w1.cell? ⟨g, 2, none⟩ = some (.slice t0.rA t0.rows.length t0.rc) ∧ w1.cell? ⟨g, 3, none⟩ = some (.string ⟨t1.name.toArray⟩) ∧ w1.cell? ⟨g, 4, none⟩ = some (.slice t1.cA t1.cols.length t1.cc) ∧ w1.cell? ⟨g, 5, none⟩ = some (.slice t1.rA t1.rows.length t1.rc)) := Lib.hid (tab_cells (HT.out.ev E1.out).ts)
  obtain ⟨hg, c0, c1, c2, c3, c4, c5⟩ := HCE.out
  have HX1 := Lib.hid (HX.out.ev E1.out)
  refine wp_region_slots hmix [fun v _ => v = .slice (some ⟨g, 0, none⟩) 2 cap, fun v _ => v = .int .i64 1, fun v _ => v = .pointer (some ⟨g, 3, none⟩), fun v _ => v = .agg #[.string ⟨t1.name.toArray⟩, .slice t1.cA t1.cols.length t1.cc, .slice t1.rA t1.rows.length t1.rc], fun v _ => v = .agg #[.string ⟨y.tab.toArray⟩, .slice y.A y.row.length y.cap, .bool y.rem], fun v _ => v = .int .i64 why, fun v _ => v = .int .i64 why]
    34 rfl (by kernel_rfl) ⟨mono_eq _, mono_eq _, mono_eq _, mono_eq _, mono_eq _, mono_eq _, mono_eq _, trivial⟩ ?_ ?_
  · refine ops_cons 0 ?_ (ops_cons 1 ?_ (ops_cons 2 ?_ (ops_cons 3 ?_ (ops_cons 4 ?_ (ops_cons 5 ?_ (ops_cons 6 ?_ (ops_nil 7)))))))
    · refine op_value fun a wq c => ⟨(wanted_plain rfl), _, run_move _ rfl wq, (c.was 0 (by kernel_rfl) rfl)⟩
    · refine op_value fun a wq c => ⟨(wanted_plain rfl), _, run_move _ rfl wq, (c.was 5 (by kernel_rfl) rfl)⟩
    · refine op_value fun a wq c => ⟨(wanted_plain rfl), .pointer (some ⟨g, 3, none⟩), ?_, rfl⟩
      have e12 : a.eval (.tmp 12) = .slice (some ⟨g, 0, none⟩) 2 cap := (c.new 0 12 (by kernel_rfl) (by kernel_rfl))
      have e13 : a.eval (.tmp 13) = .int .i64 1 := (c.new 1 13 (by kernel_rfl) (by kernel_rfl))
      generalize a.eval = ρ at e12 e13 ⊢
      simp [execOp, e12, e13, go_sem]
    · refine op_value fun a wq c => ⟨(wanted_plain rfl), _, run_load_tabv t1 rfl (c.new 2 14 (by kernel_rfl) (by kernel_rfl)) ((c.ev.cell (p := ⟨_, _, none⟩) hg).trans c3) ((c.ev.cell (p := ⟨_, _, none⟩) hg).trans c4) ((c.ev.cell (p := ⟨_, _, none⟩) hg).trans c5), rfl⟩
    · refine op_value fun a wq c => ⟨(wanted_plain rfl), _, run_load_chg y rfl (c.was 3 (by kernel_rfl) rfl) (((HX1.out.ev c.ev).three).1.1) (((HX1.out.ev c.ev).three).1.2.1) (((HX1.out.ev c.ev).three).1.2.2), rfl⟩
    · refine op_call fun a wq c => ⟨(wanted_plain rfl), 62, #[.agg #[.string ⟨t1.name.toArray⟩, .slice t1.cA t1.cols.length t1.cc, .slice t1.rA t1.rows.length t1.rc], .agg #[.string ⟨y.tab.toArray⟩, .slice y.A y.row.length y.cap, .bool y.rem]], ?_, ?_⟩
      · rw [run_call 62 _ _ rfl (by kernel_rfl)]
        have e15 : a.eval (.tmp 15) = .agg #[.string ⟨t1.name.toArray⟩, .slice t1.cA t1.cols.length t1.cc, .slice t1.rA t1.rows.length t1.rc] := (c.new 3 15 (by kernel_rfl) (by kernel_rfl))
        have e16 : a.eval (.tmp 16) = .agg #[.string ⟨y.tab.toArray⟩, .slice y.A y.row.length y.cap, .bool y.rem] := (c.new 4 16 (by kernel_rfl) (by kernel_rfl))
        simp [e15, e16]
      · refine (HAL.out _ (E1.out.trans c.ev)).mono ?_
        rintro e wp ⟨rfl, hE_⟩
        exact ⟨_, rfl, hE_, rfl⟩
    · refine op_value fun a wq c => ⟨(wanted_plain rfl), _, run_assign _ rfl wq, (c.new 5 17 (by kernel_rfl) (by kernel_rfl))⟩
  intro s w4 hE hold hnew
  have f0 : s 0 = .slice (some ⟨g, 0, none⟩) 2 cap := hold 0 (by kernel_rfl)
  have f2 : s 2 = undef := hold 2 (by kernel_rfl)
  have f3 : s 3 = .pointer (some ⟨w.heap.size, 0, none⟩) := hold 3 (by kernel_rfl)
  have f4 : s 4 = .int .i64 0 := hold 4 (by kernel_rfl)
  have f5 : s 5 = .int .i64 1 := hold 5 (by kernel_rfl)
  have f6 : s 6 = .int .i64 why := hnew 6 6 (by kernel_rfl)
  have f12 : s 12 = .slice (some ⟨g, 0, none⟩) 2 cap := hnew 0 12 (by kernel_rfl)
  have f13 : s 13 = .int .i64 1 := hnew 1 13 (by kernel_rfl)
  have f14 : s 14 = .pointer (some ⟨g, 3, none⟩) := hnew 2 14 (by kernel_rfl)
  have f15 : s 15 = .agg #[.string ⟨t1.name.toArray⟩, .slice t1.cA t1.cols.length t1.cc, .slice t1.rA t1.rows.length t1.rc] := hnew 3 15 (by kernel_rfl)
  have f16 : s 16 = .agg #[.string ⟨y.tab.toArray⟩, .slice y.A y.row.length y.cap, .bool y.rem] := hnew 4 16 (by kernel_rfl)
  have f17 : s 17 = .int .i64 why := hnew 5 17 (by kernel_rfl)
  change Exit.then _ _ .normal ⟨#[s 0, s 1, s 2, s 3, s 4, s 5, s 6, s 7, s 8, s 9, s 10, s 11, s 12, s 13, s 14, s 15, s 16, s 17, s 18, s 19, s 20, s 21, s 22, s 23, s 24, s 25, s 26, s 27, s 28, s 29, s 30, s 31, s 32, s 33], _⟩ _
  simp only [f0, f2, f3, f4, f5, f6, f12, f13, f14, f15, f16, f17]
  clear hold hnew
  generalize s 1 = u1
  generalize s 7 = u7
  generalize s 8 = u8
  generalize s 9 = u9
  generalize s 10 = u10
  generalize s 11 = u11
  generalize s 18 = u18
  generalize s 19 = u19
  generalize s 20 = u20
  generalize s 21 = u21
  generalize s 22 = u22
  generalize s 23 = u23
  generalize s 24 = u24
  generalize s 25 = u25
  generalize s 26 = u26
  generalize s 27 = u27
  generalize s 28 = u28
  generalize s 29 = u29
  generalize s 30 = u30
  generalize s 31 = u31
  generalize s 32 = u32
  generalize s 33 = u33
  have E4 := Lib.hid (E1.out.trans hE)
  clear hE hg c0 c1 c2 c3 c4 c5 HCE HX1
  by_cases hw0' : why = 0
  · subst hw0'
    go_upto_region 6 with fail
    have HCE : Hid (g < w4.heap.size ∧ w4.cell? ⟨g, 0, none⟩ = some (.string ⟨t0.name.toArray⟩) ∧ w4.cell? ⟨g, 1, none⟩ = some (.slice t0.cA t0.cols.length t0.cc) ∧ w4.cell? ⟨g, 2, none⟩ = some (.slice t0.rA t0.rows.length t0.rc) ∧ w4.cell? ⟨g, 3, none⟩ = some (.string ⟨t1.name.toArray⟩) ∧ w4.cell? ⟨g, 4, none⟩ = some (.slice t1.cA t1.cols.length t1.cc) ∧ w4.cell? ⟨g, 5, none⟩ = some (.slice t1.rA t1.rows.length t1.rc)) := Lib.hid (tab_cells (HT.out.ev E4.out).ts)
    obtain ⟨hg, c0, c1, c2, c3, c4, c5⟩ := HCE.out
    have HX4 := Lib.hid (HX.out.ev E4.out)
    have HY4 := Lib.hid (HY.out.ev E4.out)
    have HFZ : Hid (∀ i, w4.frozen? ⟨g, i, none⟩ = false) := Lib.hid (tab_frozen (HT.out.ev E4.out))
    refine wp_region_lastE hmix [fun v _ => v = .slice (some ⟨g, 0, none⟩) 2 cap, fun v _ => v = .int .i64 1, fun v _ => v = .slice (some ⟨g, 0, none⟩) 2 cap, fun v _ => v = .int .i64 1, fun v _ => v = .pointer (some ⟨g, 3, none⟩), fun v _ => v = .pointer (some ⟨g, 5, none⟩), fun v _ => v = .slice t1.rA t1.rows.length t1.rc, fun v _ => v = .agg #[.string ⟨y.tab.toArray⟩, .slice y.A y.row.length y.cap, .bool y.rem], fun v _ => v = .agg #[.slice y.A y.row.length y.cap, .complex .f64 (fl (oneP y.rem)) (fl (oneQ y.rem))], SetF [oneI y.row y.rem], SetF2 S', fun v _ => v = .pointer (some ⟨g, 3, none⟩), fun v _ => v = .pointer (some ⟨g, 5, none⟩)]
      34 rfl 13 _ rfl rfl (by kernel_rfl) (by kernel_rfl) ⟨mono_eq _, mono_eq _, mono_eq _, mono_eq _, mono_eq _, mono_eq _, mono_eq _, mono_eq _, mono_eq _, SetF.mono _, SetF2.mono _, mono_eq _, mono_eq _, trivial⟩ (opsb_start ?_) ?_
    · refine opsb_cons 0 ?_ (opsb_cons 1 ?_ (opsb_cons 2 ?_ (opsb_cons 3 ?_ (opsb_cons 4 ?_ (opsb_cons 5 ?_ (opsb_cons 6 ?_ (opsb_cons 7 ?_ (opsb_cons 8 ?_ (opsb_cons 9 ?_ (opsb_cons 10 ?_ (opsb_cons 11 ?_ (opsb_cons 12 ?_ (opsb_nil 13 _ (by omega))))))))))))))
      · refine op_value fun a wq c => ⟨(wanted_plain rfl), _, run_move _ rfl wq, (c.was 0 (by kernel_rfl) rfl)⟩
      · refine op_value fun a wq c => ⟨(wanted_plain rfl), _, run_move _ rfl wq, (c.was 5 (by kernel_rfl) rfl)⟩
      · refine op_value fun a wq c => ⟨(wanted_plain rfl), _, run_move _ rfl wq, (c.was 0 (by kernel_rfl) rfl)⟩
      · refine op_value fun a wq c => ⟨(wanted_plain rfl), _, run_move _ rfl wq, (c.was 5 (by kernel_rfl) rfl)⟩
      · refine op_value fun a wq c => ⟨(wanted_plain rfl), .pointer (some ⟨g, 3, none⟩), ?_, rfl⟩
        have e22 : a.eval (.tmp 22) = .slice (some ⟨g, 0, none⟩) 2 cap := (c.new 2 22 (by kernel_rfl) (by kernel_rfl))
        have e23 : a.eval (.tmp 23) = .int .i64 1 := (c.new 3 23 (by kernel_rfl) (by kernel_rfl))
        generalize a.eval = ρ at e22 e23 ⊢
        simp [execOp, e22, e23, go_sem]
      · refine op_value fun a wq c => ⟨(wanted_plain rfl), .pointer (some ⟨g, 5, none⟩), ?_, rfl⟩
        have e24 : a.eval (.tmp 24) = .pointer (some ⟨g, 3, none⟩) := (c.new 4 24 (by kernel_rfl) (by kernel_rfl))
        generalize a.eval = ρ at e24 ⊢
        simp [execOp, e24, go_sem]
      · refine op_value fun a wq c => ⟨(wanted_plain rfl), _, ?_, rfl⟩
        have e_0 : a.eval (.tmp 25) = .pointer (some ⟨g, 5, none⟩) := (c.new 5 25 (by kernel_rfl) (by kernel_rfl))
        have hc := (c.ev.cell (p := ⟨g, 5, none⟩) hg).trans c5
        generalize a.eval = ρ at e_0 ⊢
        simp [execOp, e_0, hc, go_sem]
      · refine op_value fun a wq c => ⟨(wanted_plain rfl), _, run_load_chg y rfl (c.was 3 (by kernel_rfl) rfl) (((HX4.out.ev c.ev).three).1.1) (((HX4.out.ev c.ev).three).1.2.1) (((HX4.out.ev c.ev).three).1.2.2), rfl⟩
      · refine op_call fun a wq c => ⟨(wanted_plain rfl), 63, #[.agg #[.string ⟨y.tab.toArray⟩, .slice y.A y.row.length y.cap, .bool y.rem]], ?_, ?_⟩
        · rw [run_call 63 _ _ rfl (by kernel_rfl)]
          have e27 : a.eval (.tmp 27) = .agg #[.string ⟨y.tab.toArray⟩, .slice y.A y.row.length y.cap, .bool y.rem] := (c.new 7 27 (by kernel_rfl) (by kernel_rfl))
          simp [e27]
        · refine (HIT.out wq).mono ?_
          rintro e wp ⟨rfl, hE_⟩
          exact ⟨_, rfl, hE_, rfl⟩
      · refine op_makes fun a wq c => ?_
        have e_0 : a.eval (.tmp 28) = .agg #[.slice y.A y.row.length y.cap, .complex .f64 (fl (oneP y.rem)) (fl (oneQ y.rem))] := (c.new 8 28 (by kernel_rfl) (by kernel_rfl))
        refine ⟨(wanted_plain rfl), .slice (some ⟨wq.heap.size, 0, none⟩) 1 1, wq.alloc (.cells #[.slice y.A y.row.length y.cap, .complex .f64 (fl (oneP y.rem)) (fl (oneQ y.rem))] 62), ?_, Ev.alloc _ _, _, _, _, rfl, item_one y wq (HY4.out.ev c.ev)⟩
        generalize a.eval = ρ at e_0 ⊢
        simp [execOp, e_0, go_sem]
      · refine op_call fun a wq c => ?_
        obtain ⟨B, n1, c1, e_1, hB⟩ : SetF [oneI y.row y.rem] (a.eval (.tmp 29)) wq := (c.new 9 29 (by kernel_rfl) (by kernel_rfl))
        have e_0 : a.eval (.tmp 26) = .slice t1.rA t1.rows.length t1.rc := (c.new 6 26 (by kernel_rfl) (by kernel_rfl))
        refine ⟨(wanted_plain rfl), 59, #[.slice t1.rA t1.rows.length t1.rc, .slice B n1 c1], ?_, ?_⟩
        · rw [run_call 59 _ _ rfl (by kernel_rfl)]
          simp [e_0, e_1]
        · refine (HSM.out B n1 c1 wq (E4.out.trans c.ev) hB).mono ?_
          rintro e wp ⟨A', c', rfl, hS', hE_⟩
          exact ⟨_, rfl, hE_, A', c', rfl, hS'.in_⟩
      · refine op_value fun a wq c => ⟨(wanted_plain rfl), .pointer (some ⟨g, 3, none⟩), ?_, rfl⟩
        have e20 : a.eval (.tmp 20) = .slice (some ⟨g, 0, none⟩) 2 cap := (c.new 0 20 (by kernel_rfl) (by kernel_rfl))
        have e21 : a.eval (.tmp 21) = .int .i64 1 := (c.new 1 21 (by kernel_rfl) (by kernel_rfl))
        generalize a.eval = ρ at e20 e21 ⊢
        simp [execOp, e20, e21, go_sem]
      · refine op_value fun a wq c => ⟨(wanted_plain rfl), .pointer (some ⟨g, 5, none⟩), ?_, rfl⟩
        have e31 : a.eval (.tmp 31) = .pointer (some ⟨g, 3, none⟩) := (c.new 11 31 (by kernel_rfl) (by kernel_rfl))
        generalize a.eval = ρ at e31 ⊢
        simp [execOp, e31, go_sem]
    intro s w6 hE hold hnew
    have f0 : s 0 = .slice (some ⟨g, 0, none⟩) 2 cap := hold 0 (by kernel_rfl)
    have f2 : s 2 = undef := hold 2 (by kernel_rfl)
    have f3 : s 3 = .pointer (some ⟨w.heap.size, 0, none⟩) := hold 3 (by kernel_rfl)
    have f4 : s 4 = .int .i64 0 := hold 4 (by kernel_rfl)
    have f5 : s 5 = .int .i64 1 := hold 5 (by kernel_rfl)
    have f6 : s 6 = .int .i64 0 := hold 6 (by kernel_rfl)
    have f20 : s 20 = .slice (some ⟨g, 0, none⟩) 2 cap := hnew 0 20 (by omega) (by kernel_rfl)
    have f21 : s 21 = .int .i64 1 := hnew 1 21 (by omega) (by kernel_rfl)
    have f22 : s 22 = .slice (some ⟨g, 0, none⟩) 2 cap := hnew 2 22 (by omega) (by kernel_rfl)
    have f23 : s 23 = .int .i64 1 := hnew 3 23 (by omega) (by kernel_rfl)
    have f24 : s 24 = .pointer (some ⟨g, 3, none⟩) := hnew 4 24 (by omega) (by kernel_rfl)
    have f25 : s 25 = .pointer (some ⟨g, 5, none⟩) := hnew 5 25 (by omega) (by kernel_rfl)
    have f26 : s 26 = .slice t1.rA t1.rows.length t1.rc := hnew 6 26 (by omega) (by kernel_rfl)
    have f27 : s 27 = .agg #[.string ⟨y.tab.toArray⟩, .slice y.A y.row.length y.cap, .bool y.rem] := hnew 7 27 (by omega) (by kernel_rfl)
    have f28 : s 28 = .agg #[.slice y.A y.row.length y.cap, .complex .f64 (fl (oneP y.rem)) (fl (oneQ y.rem))] := hnew 8 28 (by omega) (by kernel_rfl)
    have f31 : s 31 = .pointer (some ⟨g, 3, none⟩) := hnew 11 31 (by omega) (by kernel_rfl)
    have f32 : s 32 = .pointer (some ⟨g, 5, none⟩) := hnew 12 32 (by omega) (by kernel_rfl)
    obtain ⟨A', c', f30, hS'⟩ := (hnew 10 30 (by omega) (by kernel_rfl) : SetF2 S' (s 30) w6)
    have hcell_ := (hE.cell (p := ⟨g, 5, none⟩) hg).trans c5
    have hfz := (hE.frozen (p := ⟨g, 5, none⟩) hg).trans (HFZ.out 5)
    refine ⟨wanted_plain rfl, wp_of_skip (w' := w6.setCell ⟨g, 5, none⟩ (.slice A' S'.length c')) ?_ ?_⟩
    · change (execOp (Act.eval ⟨#[s 0, s 1, s 2, s 3, s 4, s 5, s 6, s 7, s 8, s 9, s 10, s 11, s 12, s 13, s 14, s 15, s 16, s 17, s 18, s 19, s 20, s 21, s 22, s 23, s 24, s 25, s 26, s 27, s 28, s 29, s 30, s 31, s 32, s 33], _⟩) ⟨none, .store 41 (.tmp 32) (.tmp 30), _, _, _, _⟩).run _ _ = _
      simp [execOp, f32, f30, go_sem, hcell_, hfz]
    change Exit.then _ _ .normal ⟨#[s 0, s 1, s 2, s 3, s 4, s 5, s 6, s 7, s 8, s 9, s 10, s 11, s 12, s 13, s 14, s 15, s 16, s 17, s 18, s 19, s 20, s 21, s 22, s 23, s 24, s 25, s 26, s 27, s 28, s 29, s 30, s 31, s 32, s 33], _⟩ _
    simp only [f0, f2, f3, f4, f5, f6, f20, f21, f22, f23, f24, f25, f26, f27, f28, f31, f32]
    clear hold hnew
    generalize s 1 = u1
    generalize s 7 = u7
    generalize s 8 = u8
    generalize s 9 = u9
    generalize s 10 = u10
    generalize s 11 = u11
    generalize s 12 = u12
    generalize s 13 = u13
    generalize s 14 = u14
    generalize s 15 = u15
    generalize s 16 = u16
    generalize s 17 = u17
    generalize s 18 = u18
    generalize s 19 = u19
    generalize s 33 = u33
    obtain ⟨hT6, hB6⟩ := (HT.out.ev (E4.out.trans hE)).set (i := 1) (t := t1) rfl hS'
    have HT6 := Lib.hid hT6
    have HB6 := Lib.hid ((But.of_ev (K := [g]) (HE0.out.trans (E4.out.trans hE))).then hB6)
    clear hT6 hB6 hcell_ hfz hE hS'
    go_wp2
    go_ret
    unfold ChgOut
    exact ⟨rfl, .inr ⟨rfl, _, _, HT6.out, HB6.out⟩⟩
  · go_wp2
    go_ret
    unfold ChgOut
    exact ⟨rfl, .inl ⟨hw0', HE0.out.trans E4.out⟩⟩

end Go.Proofs.YthpiobkghfdkkaaGreat

namespace Go.Proofs.YthpiobkghfdkkaaGreat
open Go.RowKit
set_option linter.unusedVariables false

theorem pure_of_append {α : Type} {k : Nat} {enc : α → List Value} {et : TypeId} {base : Nat} {w : World} {v : Value} {Z : List α} {P : Program} (Pv : Value → Prop) (E : Enc k enc) (T ty : TypeId)
    (ht : P.underlying T = some (.slice et)) {zero : Value} {bytes : Nat} (hi : (P.info? et).map (fun i => (i.zero, i.size, i.bytes)) = some (some zero, k, bytes)) (hz : zero.cells.size = k)
    (hown : Ow et k enc base w v Z) (g : Nat) (y : α) (hB : Sl k enc w (some ⟨g, 0, none⟩) 1 1 [y]) (hbytes : (Z.length + 1) * bytes ≤ 140737488355328) (hsm : Z.length + 1 ≤ 1000000000)
    (hzp : ∀ u ∈ zero.cells.toList, Pv u) (hnp : ∀ u ∈ enc y, Pv u) (hold : OwP Pv w v) {v' : Value} {w' : World} (hr : (Builtin.append_ #[T, T] ty #[v, .slice (some ⟨g, 0, none⟩) 1 1]).run P w = .ok v' w') : OwP Pv w' v' := by
  obtain ⟨i, hi0, hz', hsz, hby⟩ := info_parts hi
  have hcells : ∀ j u, (cl enc [y])[j]? = some u → w.cell? ((⟨g, 0, none⟩ : Addr).add j) = some u := by
    intro q u hu
    obtain ⟨i', j', x, rfl, hx, hxu⟩ := cl_back E [y] q u hu
    obtain ⟨b, off, e, _, hc⟩ := hB.rd (by omega)
    injection e with e
    injection e with e1 e2 _
    subst e1; subst e2
    have := hc i' x hx j' u hxu
    rw [Addr.add_lit]
    rwa [show 0 + i' * k + j' = 0 + (i' * k + j') by omega] at this
  exact run_append_pure (P := P) Pv base T ty et i zero ht hi0 hz' (by rw [hz, hsz]) v Z.length (cl enc Z) (by rw [hsz]; exact hown) ⟨g, 0, none⟩ 1 1 (cl enc [y]) (by rw [cl_length E, hsz]; simp) hcells (cl_one E [y]) (by unfold maxLen; omega) (by rw [hby]; exact hbytes) (by omega) hzp (fun u hu => by
    obtain ⟨x, hx, h⟩ := cl_mem hu
    rw [List.mem_singleton.1 hx] at h
    exact hnp u h) hold hr
/-- A table made anew like t. -/
def TabAs (n0 : Nat) (t : TM) (w : World) (x : TM) : Prop := (x.name = t.name ∧ x.cols = t.cols ∧ x.rows = t.rows) ∧ Cs w x.cA x.cols.length x.cc x.cols ∧ (∀ ad, x.cA = some ad → n0 ≤ ad.block ∧ ad.block < w.heap.size) ∧ SetNew n0 x.rows w x.rA x.rows.length x.rc
theorem TabAs.ev {n0 : Nat} {t : TM} (w w' : World) (x : TM) (hE : Ev w w') (h : TabAs n0 t w x) : TabAs n0 t w' x := ⟨h.1, h.2.1.ev hE, fun ad ea => ⟨(h.2.2.1 ad ea).1, Nat.lt_of_lt_of_le (h.2.2.1 ad ea).2 hE.size⟩, h.2.2.2.ev hE⟩
theorem TabAs.but {n0 : Nat} {t : TM} {K : List Nat} (hK : ∀ k ∈ K, k < n0) (w w' : World) (x : TM) (hB : But K w w') (h : TabAs n0 t w x) : TabAs n0 t w' x := ⟨h.1, h.2.1.but hB (fun ad ea hm => by have := hK _ hm; have := (h.2.2.1 ad ea).1; omega), fun ad ea => ⟨(h.2.2.1 ad ea).1, Nat.lt_of_lt_of_le (h.2.2.1 ad ea).2 hB.size⟩, h.2.2.2.but hB hK⟩
def SetNF (n0 : Nat) (S : List I) (v : Value) (w : World) : Prop := ∃ A c, v = .slice A S.length c ∧ SetNew n0 S w A S.length c
theorem SetNF.mono (n0 : Nat) (S : List I) : Mono (SetNF n0 S) := fun v w w' hE ⟨A, c, e, h⟩ => ⟨A, c, e, h.ev hE⟩
theorem SetNF.monoB {n0 : Nat} (S : List I) {K : List Nat} (hK : ∀ k ∈ K, k < n0) : MonoB K (SetNF n0 S) := fun v w w' hB ⟨A, c, e, h⟩ => ⟨A, c, e, h.but hB hK⟩
def BuiltT (n0 : Nat) (t : TM) (v : Value) (w : World) : Prop := ∃ x : TM, v = .agg #[.string ⟨t.name.toArray⟩, .slice x.cA x.cols.length x.cc, .slice x.rA x.rows.length x.rc] ∧ TabAs n0 t w x
theorem BuiltT.mono (n0 : Nat) (t : TM) : Mono (BuiltT n0 t) := fun v w w' hE ⟨x, e, h⟩ => ⟨x, e, h.ev _ _ _ hE⟩
theorem BuiltT.monoB {n0 : Nat} (t : TM) {K : List Nat} (hK : ∀ k ∈ K, k < n0) : MonoB K (BuiltT n0 t) := fun v w w' hB ⟨x, e, h⟩ => ⟨x, e, TabAs.but hK _ _ _ hB h⟩
/-- The tables so far, with one more. -/
def GrT (base n0 : Nat) (t : TM) (Z : List TM) (v : Value) (w : World) : Prop := ∃ x, Ow 45 3 tc base w v (Z ++ [x]) ∧ OwP PvT w v ∧ TabAs n0 t w x
theorem GrT.mono (base n0 : Nat) (t : TM) (Z : List TM) : Mono (GrT base n0 t Z) := fun v w w' hE ⟨x, h1, h2, h3⟩ => ⟨x, h1.ev hE, h2.ev h1 hE, h3.ev _ _ _ hE⟩
/-- How far clones has come. -/
structure ClSt (w : World) (v : Value) (L Z : List TM) (wr : World) : Prop where
  own : Ow 45 3 tc w.heap.size wr v Z
  pv : OwP PvT wr v
  each : ∀ x ∈ Z, TmAt wr x
  same : Z.map (fun t => (t.name, t.cols, t.rows)) = L.map (fun t => (t.name, t.cols, t.rows))
  ev : Ev w wr
theorem ClSt.next {w wr wx w2 : World} {v v2 : Value} {L Z : List TM} {t : TM} (h : ClSt w v L Z wr) (hE : Ev wr wx) (hb : But (foot v) wx w2) (hG : GrT w.heap.size wx.heap.size t Z v2 w2) : ∃ x, ClSt w v2 (L ++ [t]) (Z ++ [x]) w2 := by
  obtain ⟨x, h1, h2, h3⟩ := hG
  refine ⟨x, h1, h2, fun y hy => ?_, ?_, ((But.of_ev (h.ev.trans hE)).then hb).ev fun k hk => (h.own.lt (mem_foot.1 hk)).1⟩
  · rcases List.mem_append.1 hy with hy | hy
    · exact ((h.each y hy).ev hE).grown (h.own.ev hE) (h.pv.ev h.own hE) hb
    · rw [List.mem_singleton.1 hy]
      exact ⟨h3.2.1, h3.2.2.2.in_⟩
  · rw [List.map_append, List.map_append, h.same, List.map_cons, List.map_cons, h3.1.1, h3.1.2.1, h3.1.2.2]
/-- What clones gives. -/
def ClonesOut (L : List TM) (w : World) (e : Ending) (w' : World) : Prop := ∃ (g cap : Nat) (Z : List TM), e = .returned (.slice (some ⟨g, 0, none⟩) Z.length cap) ∧ TabSt w.heap.size g cap Z w' ∧ Z.map (fun t => (t.name, t.cols, t.rows)) = L.map (fun t => (t.name, t.cols, t.rows)) ∧ Ev w w'

set_option maxRecDepth 100000 in
set_option maxHeartbeats 8000000 in
theorem bt_clones {q : Nat} {A : Option Addr} {n cap : Nat} {l : List TM} (w : World) (h : TsAt w A n cap l) (hn : n ≤ 1000) (h0 : 0 < n) (hc : ∀ t ∈ l, t.cols.length ≤ 1000 ∧ 0 < t.cols.length) (hz : ∀ t ∈ l, ZOk q t.rows ∧ t.rows.length ≤ 100000) (hq : q ≤ 1000000) :
    Calls Tryz.prog 33 #[.slice A n cap] w (ClonesOut l w) := by
  have hmix : Tryz.prog.follows .mixedOrders = true := by kernel_rfl
  have hcl := h.sl.le
  have hcm := h.sl.max
  have HL := Lib.hid h.sl.len
  have H := Lib.hid h
  have HC := Lib.hid hc
  have HZO := Lib.hid hz
  unfold ClonesOut
  clear h hc hz
  go_enter Tryz.func33, Tryz.ntmps33
  go_wp2
  go_loopw [3, 8] (fun av iv wr => ∃ (A1 : Option Addr) (cap1 k : Nat) (Z : List TM), av = .slice A1 k cap1 ∧ iv = .int .i64 (k : Int) ∧ k ≤ n ∧ Hid (Z.length = k) ∧ Hid (ClSt w (.slice A1 k cap1) (l.take k) Z wr)) (fun _ iv _ => n - (intOf iv).toNat)
  case atStart => exact ⟨none, 0, 0, [], rfl, rfl, Nat.zero_le _, Lib.hid rfl, Lib.hid ⟨Ow.nil_ _, OwP.none_ _ _ _ _, (fun d hd => by cases hd), rfl, Ev.refl _⟩⟩
  case round =>
    obtain ⟨A1, cap1, k, Z, rfl, rfl, hk, HZL, HS⟩ := hrel
    by_cases hlt : k < n
    · obtain ⟨t, ht⟩ := H.out.sl.at hlt
      obtain ⟨b, off, rfl, hb, c0, c1, c2⟩ := (H.out.ev HS.out.ev).cell ht
      obtain ⟨wx, hwx, hEx, hX, hsx⟩ := bx_tab wr t
      have htm := List.mem_of_getElem? ht
      have HT : Hid (l.take (k + 1) = l.take k ++ [t]) := Lib.hid (by
        obtain ⟨hk2, e1⟩ := List.getElem?_eq_some_iff.1 ht
        rw [List.take_succ_eq_append_getElem hk2, e1])
      have hfk : ∀ q ∈ foot (.slice A1 k cap1), w.heap.size ≤ q ∧ q < wr.heap.size := fun q hq => HS.out.own.lt (mem_foot.1 hq)
      have HKW : Hid (∀ q ∈ foot (.slice A1 k cap1), q < wx.heap.size) := Lib.hid fun q hq => Nat.lt_of_lt_of_le (hfk q hq).2 hEx.size
      have HIN : Hid (∀ wq, But (foot (.slice A1 k cap1)) wx wq → Ev w wq) := Lib.hid fun wq hB => ((But.of_ev (HS.out.ev.trans hEx)).then hB).ev fun q hq => (hfk q hq).1
      have HCL := Lib.hid (fun w1 (hB : But (foot (.slice A1 k cap1)) wx w1) => clone_cols w1 ((H.out.each t htm).ev (HIN.out w1 hB)).cols (by have := (HC.out t htm).1; omega) (HC.out t htm).2)
      have hmk : makeI (t.rows ++ []) = (0, t.rows) := by rw [List.append_nil]; exact make_self (HZO.out t htm).1 (by omega)
      have HSM := Lib.hid (fun w1 (hB : But (foot (.slice A1 k cap1)) wx w1) => bt_sum w1 ((H.out.each t htm).ev (HIN.out w1 hB)).rows (SetIn.nil_ w1) (HZO.out t htm).2 (by omega) (by rw [List.append_nil]; exact (HZO.out t htm).1.tallies) hmk)
      unfold SetOutN at HSM
      obtain ⟨bx, hbx⟩ : ∃ bx, bx = wr.heap.size := ⟨_, rfl⟩
      rw [← hbx] at hX
      have HBX : Hid (bx ∉ foot (.slice A1 k cap1)) := Lib.hid (fun hm => by have := (hfk _ hm).2; omega)
      have HX := Lib.hid hX
      have HEX := Lib.hid hEx
      have HOWN := Lib.hid (HS.out.own.ev hEx)
      have HPV := Lib.hid (HS.out.pv.ev HS.out.own hEx)
      have HSZ : Hid ((Z.length + 1) * 64 ≤ 140737488355328 ∧ Z.length + 1 ≤ 1000000000) := Lib.hid (by rw [HZL.out]; omega)
      have HSW : Hid (w.heap.size ≤ wx.heap.size) := Lib.hid (HS.out.ev.trans hEx).size
      have i1 : (0 : Int) ≤ (k : Int) := by omega
      have i2 : (k : Int) < (n : Int) := by omega
      clear ht htm hfk hmk hX hEx
      go_upto_region 5 with fail
      rw [← hbx]
      (try rw [hwx])
      refine wp_region_slotsB hmix (foot (.slice A1 k cap1)) 11 [fun v _ => v = .slice A1 k cap1, fun v _ => v = .pointer (some ⟨bx, 0, none⟩), fun v _ => v = .string ⟨t.name.toArray⟩, fun v _ => v = .pointer (some ⟨bx, 1, none⟩), fun v _ => v = .slice t.cA t.cols.length t.cc, ClonedC wx.heap.size t.cols, fun v _ => v = .pointer (some ⟨bx, 2, none⟩), fun v _ => v = .slice t.rA t.rows.length t.rc, SetNF wx.heap.size t.rows, BuiltT wx.heap.size t, OneEl 3 tc wx.heap.size (TabAs wx.heap.size t), GrT w.heap.size wx.heap.size t Z, GrT w.heap.size wx.heap.size t Z]
        26 rfl (by kernel_rfl) ⟨mono_eq _, mono_eq _, mono_eq _, mono_eq _, mono_eq _, ClonedC.mono _ _, mono_eq _, mono_eq _, SetNF.mono _ _, BuiltT.mono _ _, OneEl.mono TabAs.ev, GrT.mono _ _ _ _, GrT.mono _ _ _ _, trivial⟩ ⟨.inr (.inr (monoB_eq _ _)), .inr (.inr (monoB_eq _ _)), .inr (.inr (monoB_eq _ _)), .inr (.inr (monoB_eq _ _)), .inr (.inr (monoB_eq _ _)), .inr (.inr (ClonedC.monoB _ HKW.out)), .inr (.inr (monoB_eq _ _)), .inr (.inr (monoB_eq _ _)), .inr (.inr (SetNF.monoB _ HKW.out)), .inr (.inr (BuiltT.monoB _ HKW.out)), .inr (.inr (OneEl.monoB HKW.out (TabAs.but HKW.out))), .inl rfl, .inr (.inl (by kernel_rfl)), trivial⟩ ?_ ?_
      · refine ops_cons 0 ?_ (ops_cons 1 ?_ (ops_cons 2 ?_ (ops_cons 3 ?_ (ops_cons 4 ?_ (ops_cons 5 ?_ (ops_cons 6 ?_ (ops_cons 7 ?_ (ops_cons 8 ?_ (ops_cons 9 ?_ (ops_cons 10 ?_ (ops_cons 11 ?_ (ops_cons 12 ?_ (ops_nil 13)))))))))))))
        · refine opb_value fun a wq c => ⟨(wanted_plain rfl), _, run_move _ rfl wq, (c.was 3 (by kernel_rfl) rfl)⟩
        · refine opb_value fun a wq c => ⟨(wanted_plain rfl), .pointer (some ⟨bx, 0, none⟩), ?_, rfl⟩
          have e_0 : a.eval (.tmp 5) = .pointer (some ⟨bx, 0, none⟩) := (c.was 5 (by kernel_rfl) rfl)
          generalize a.eval = ρ at e_0 ⊢
          simp [execOp, e_0, go_sem]
        · refine opb_value fun a wq c => ⟨(wanted_plain rfl), .string ⟨t.name.toArray⟩, ?_, rfl⟩
          have e_0 : a.eval (.tmp 13) = .pointer (some ⟨bx, 0, none⟩) := (c.new 1 13 (by kernel_rfl) (by kernel_rfl))
          have hc := (HX.out.but c.but HBX.out).cell 0
          generalize a.eval = ρ at e_0 ⊢
          simp [execOp, e_0, go_sem, hc]
        · refine opb_value fun a wq c => ⟨(wanted_plain rfl), .pointer (some ⟨bx, 1, none⟩), ?_, rfl⟩
          have e_0 : a.eval (.tmp 5) = .pointer (some ⟨bx, 0, none⟩) := (c.was 5 (by kernel_rfl) rfl)
          generalize a.eval = ρ at e_0 ⊢
          simp [execOp, e_0, go_sem]
        · refine opb_value fun a wq c => ⟨(wanted_plain rfl), .slice t.cA t.cols.length t.cc, ?_, rfl⟩
          have e_0 : a.eval (.tmp 15) = .pointer (some ⟨bx, 1, none⟩) := (c.new 3 15 (by kernel_rfl) (by kernel_rfl))
          have hc := (HX.out.but c.but HBX.out).cell 1
          generalize a.eval = ρ at e_0 ⊢
          simp [execOp, e_0, go_sem, hc]
        · refine opb_call fun a wq c => ⟨(wanted_plain rfl), 58, #[.slice t.cA t.cols.length t.cc], ?_, ?_⟩
          · rw [run_call 58 _ _ rfl (by kernel_rfl)]
            have e_0 : a.eval (.tmp 16) = .slice t.cA t.cols.length t.cc := (c.new 4 16 (by kernel_rfl) (by kernel_rfl))
            simp [e_0]
          · refine (HCL.out wq c.but).mono ?_
            rintro e wp ⟨v, rfl, hO, hE⟩
            refine ⟨v, rfl, Turns.of_ev hE, ?_⟩
            obtain ⟨A5, cap5, rfl, hS5, hA5⟩ := hO.form encC
            exact ⟨A5, cap5, rfl, hS5, fun ad ea => ⟨Nat.le_trans c.but.size (hA5 ad ea).2.1, (hA5 ad ea).2.2.1⟩⟩
        · refine opb_value fun a wq c => ⟨(wanted_plain rfl), .pointer (some ⟨bx, 2, none⟩), ?_, rfl⟩
          have e_0 : a.eval (.tmp 5) = .pointer (some ⟨bx, 0, none⟩) := (c.was 5 (by kernel_rfl) rfl)
          generalize a.eval = ρ at e_0 ⊢
          simp [execOp, e_0, go_sem]
        · refine opb_value fun a wq c => ⟨(wanted_plain rfl), .slice t.rA t.rows.length t.rc, ?_, rfl⟩
          have e_0 : a.eval (.tmp 18) = .pointer (some ⟨bx, 2, none⟩) := (c.new 6 18 (by kernel_rfl) (by kernel_rfl))
          have hc := (HX.out.but c.but HBX.out).cell 2
          generalize a.eval = ρ at e_0 ⊢
          simp [execOp, e_0, go_sem, hc]
        · refine opb_call fun a wq c => ⟨(wanted_plain rfl), 59, #[.slice t.rA t.rows.length t.rc, .slice none 0 0], ?_, ?_⟩
          · rw [run_call 59 _ _ rfl (by kernel_rfl)]
            have e_0 : a.eval (.tmp 19) = .slice t.rA t.rows.length t.rc := (c.new 7 19 (by kernel_rfl) (by kernel_rfl))
            have kc0 : a.eval (.const (.slice none 0 0)) = .slice none 0 0 := rfl
            simp [e_0, kc0]
          · refine (HSM.out wq c.but).mono ?_
            rintro e wp ⟨A5, c5, rfl, hS5, hE⟩
            exact ⟨_, rfl, Turns.of_ev hE, A5, c5, rfl, hS5.less c.but.size⟩
        · refine opb_value fun a wq c => ?_
          have e_0 : a.eval (.tmp 14) = .string ⟨t.name.toArray⟩ := (c.new 2 14 (by kernel_rfl) (by kernel_rfl))
          obtain ⟨A5, cap5, e_1, hS5, hA5⟩ := ((c.new 5 17 (by kernel_rfl) (by kernel_rfl)) : ClonedC wx.heap.size t.cols (a.eval (.tmp 17)) wq)
          obtain ⟨A6, cap6, e_2, hS6⟩ := ((c.new 8 20 (by kernel_rfl) (by kernel_rfl)) : SetNF wx.heap.size t.rows (a.eval (.tmp 20)) wq)
          refine ⟨(wanted_plain rfl), .agg #[.string ⟨t.name.toArray⟩, .slice A5 t.cols.length cap5, .slice A6 t.rows.length cap6], ?_, ⟨t.name, A5, cap5, t.cols, A6, cap6, t.rows⟩, rfl, ⟨rfl, rfl, rfl⟩, hS5, hA5, hS6⟩
          generalize a.eval = ρ at e_0 e_1 e_2 ⊢
          simp [execOp, e_0, e_1, e_2, go_sem]
        · refine opb_makes fun a wq c => ?_
          obtain ⟨x, e_0, hx⟩ := ((c.new 9 21 (by kernel_rfl) (by kernel_rfl)) : BuiltT wx.heap.size t (a.eval (.tmp 21)) wq)
          refine ⟨(wanted_plain rfl), .slice (some ⟨wq.heap.size, 0, none⟩) 1 1, wq.alloc (.cells #[.string ⟨t.name.toArray⟩, .slice x.cA x.cols.length x.cc, .slice x.rA x.rows.length x.rc] 45), ?_, Turns.of_ev (Ev.alloc _ _), wq.heap.size, x, rfl, c.but.size, Sl.one (et := 45) encT wq _ _ (by rw [← hx.1.1]; rfl), hx.ev _ _ _ (Ev.alloc _ _)⟩
          generalize a.eval = ρ at e_0 ⊢
          simp [execOp, e_0, go_sem]
        · refine opb_makes fun a wq c => ?_
          have e_0 : a.eval (.tmp 12) = .slice A1 k cap1 := (c.new 0 12 (by kernel_rfl) (by kernel_rfl))
          have hO_ : OneEl 3 tc wx.heap.size (TabAs wx.heap.size t) (a.eval (.tmp 22)) wq := (c.new 10 22 (by kernel_rfl) (by kernel_rfl))
          obtain ⟨g_, y_, e_1, hg_, hS_, hy_⟩ := hO_
          obtain ⟨v_, w_, hr_, ho_, hb_, hs_, _⟩ := run_append_ow (P := Tryz.prog) encT 28 28 Tryz.underlying28 Tryz.infoTable rfl (HOWN.out.ev (c.evm rfl)) (some ⟨g_, 0, none⟩) 1 1 [y_] hS_ HSZ.out.1 HSZ.out.2 (Nat.le_trans HSW.out c.but.size)
          have hp_ := pure_of_append (P := Tryz.prog) PvT encT 28 28 Tryz.underlying28 Tryz.infoTable rfl (HOWN.out.ev (c.evm rfl)) g_ y_ hS_ HSZ.out.1 HSZ.out.2 pvt_zero (pvt_tc y_) (HPV.out.ev HOWN.out (c.evm rfl)) hr_
          refine ⟨(wanted_plain rfl), v_, w_, ?_, Turns.self hb_, y_, ho_, hp_, TabAs.but HKW.out _ _ _ hb_ hy_⟩
          unfold execOp
          simp only [resolve, invoke, builtin, Sem.run_bind, Sem.run_pure, Result.andThen_ok, List.map_toArray, List.map_cons, List.map_nil, e_0, e_1, hr_]
        · refine opb_value fun a wq c => ⟨(wanted_plain rfl), _, run_assign _ rfl wq, ((c.new 11 23 (by kernel_rfl) (by kernel_rfl)))⟩
      intro s w5 hB hold hnew
      have hG : GrT w.heap.size wx.heap.size t Z (s 3) w5 := hnew 12 3 (by kernel_rfl)
      have f0 : s 0 = .slice (some ⟨b, off, none⟩) n cap := hold 0 (by kernel_rfl)
      have f1 : s 1 = undef := hold 1 (by kernel_rfl)
      have f2 : s 2 = .slice none 0 0 := hold 2 (by kernel_rfl)
      have f4 : s 4 = undef := hold 4 (by kernel_rfl)
      have f6 : s 6 = .slice (some ⟨b, off, none⟩) n cap := hold 6 (by kernel_rfl)
      have f7 : s 7 = .int .i64 (n : Int) := hold 7 (by kernel_rfl)
      have f8 : s 8 = .int .i64 (k : Int) := hold 8 (by kernel_rfl)
      have f25 : s 25 = undef := hold 25 (by kernel_rfl)
      change Exit.inBlock _ _ .normal ⟨#[s 0, s 1, s 2, s 3, s 4, s 5, s 6, s 7, s 8, s 9, s 10, s 11, s 12, s 13, s 14, s 15, s 16, s 17, s 18, s 19, s 20, s 21, s 22, s 23, s 24, s 25], _⟩ _
      simp only [f0, f1, f2, f4, f6, f7, f8, f25]
      clear hold hnew
      generalize s 5 = u5_
      generalize s 9 = u9_
      generalize s 10 = u10_
      generalize s 11 = u11_
      generalize s 12 = u12_
      generalize s 13 = u13_
      generalize s 14 = u14_
      generalize s 15 = u15_
      generalize s 16 = u16_
      generalize s 17 = u17_
      generalize s 18 = u18_
      generalize s 19 = u19_
      generalize s 20 = u20_
      generalize s 21 = u21_
      generalize s 22 = u22_
      generalize s 23 = u23_
      generalize s 24 = u24_
      obtain ⟨x, HD2⟩ := HS.out.next HEX.out hB hG
      obtain ⟨A2, cap2_, hv2, _, _⟩ := HD2.own.form encT
      generalize s 3 = v3 at *
      subst hv2
      have HD3 := Lib.hid HD2
      have HZ2 : Hid ((Z ++ [x]).length = k + 1) := Lib.hid (by rw [List.length_append, HZL.out]; rfl)
      rw [HZ2.out] at HD3
      clear hG HD2 hB
      go_wp2
      rw [HZ2.out]
      go_roundw
      case rel => exact ⟨A2, cap2_, k + 1, Z ++ [x], rfl, by go_num, by omega, HZ2, Lib.hid (by rw [HT.out]; exact HD3.out)⟩
      case measure => simp [intOf]; omega
    · obtain rfl : k = n := by omega
      have HT : Hid (l.take k = l) := Lib.hid (List.take_of_length_le (by rw [HL.out]; exact Nat.le_refl _))
      go_wp2
      go_ret
      have h1 := HS.out
      rw [HT.out] at h1
      obtain ⟨A9, c9, hv, hS9, hA9⟩ := h1.own.form encT
      obtain ⟨b9, off9, e9, _⟩ := hS9.rd (by rw [HZL.out]; exact h0)
      injection hv with v1 v2 v3
      subst v1
      have h7 := (hA9 _ e9).2.2.2.1
      injection h7 with _ h7 _
      subst h7
      subst e9
      refine ⟨b9, cap1, Z, by rw [HZL.out]; rfl, ⟨by rw [HZL.out]; exact h1.own, by rw [HZL.out]; exact h1.pv, h1.each⟩, h1.same, h1.ev⟩
end Go.Proofs.YthpiobkghfdkkaaGreat

namespace Go.Proofs.YthpiobkghfdkkaaGreat
open Go.RowKit
set_option linter.unusedVariables false

set_option maxRecDepth 100000 in
theorem bytealg_compare (a b : ByteArray) (w : World) : Calls Tryz.prog 115 #[.string a, .string b] w fun e w' => e = .returned (.int .i64 (Lib.compareBytes a.data.toList b.data.toList)) ∧ w' = w := by
  go_enter Tryz.func115, Tryz.ntmps115
  go_wp2
  rw [run_callFunc_extern Tryz.func129 (by kernel_rfl) (by kernel_rfl) (by kernel_rfl) (e := Extern.BytealgCompare.compare) (by kernel_rfl), Lib.run_compareString]
  simp only [Result.andThen]
  rw [Oper.upon_value]
  go_wp2
  go_ret
  exact ⟨rfl, rfl⟩
theorem str_compare (a b : ByteArray) (w : World) : Calls Tryz.prog 95 #[.string a, .string b] w fun e w' => e = .returned (.int .i64 (Lib.compareBytes a.data.toList b.data.toList)) ∧ w' = w := by
  go_enter Tryz.func95, Tryz.ntmps95
  go_wp2_with ((with_reducible refine (bytealg_compare _ _ _).mono ?_); rintro e w' ⟨rfl, rfl⟩)
  go_ret
  exact ⟨rfl, rfl⟩
/-- A delta as it lies. -/
structure DL where
  name : By
  A : Option Addr
  cap : Nat
  rows : List I
def dlc (x : DL) : List Value := [.string ⟨x.name.toArray⟩, .slice x.A x.rows.length x.cap]
theorem encDL : Enc 2 dlc := ⟨by omega, fun _ => rfl, fun x u hu => by
  simp [dlc] at hu
  rcases hu with rfl | rfl <;> rfl⟩
theorem pvt_dlc (x : DL) : ∀ u ∈ dlc x, PvT u := fun u hu => by
  simp [dlc] at hu
  rcases hu with rfl | rfl
  · exact .inl ⟨_, rfl⟩
  · exact .inr ⟨_, _, _, rfl⟩
theorem Tryz.infoDelta : (Tryz.prog.info? 54).map (fun i => (i.zero, i.size, i.bytes)) = some (some (.agg #[.string ⟨#[]⟩, .slice none 0 0]), 2, 40) := by kernel_rfl
theorem pvt_zeroD : ∀ u ∈ (Value.agg #[.string ⟨#[]⟩, .slice none 0 0]).cells.toList, PvT u := fun u hu => by
  simp [Value.cells] at hu
  rcases hu with rfl | rfl
  · exact .inl ⟨_, rfl⟩
  · exact .inr ⟨_, _, _, rfl⟩
set_option maxRecDepth 100000 in
set_option maxHeartbeats 8000000 in
theorem bt_byName (x : DL) (nm : By) (k : Int) (hk : Lib.compareBytes x.name nm = k) (w : World) :
    Calls Tryz.prog 65 #[.agg #[.string ⟨x.name.toArray⟩, .slice x.A x.rows.length x.cap], .string ⟨nm.toArray⟩] w fun e w' => e = .returned (.int .i64 k) ∧ Ev w w' := by
  obtain ⟨w0, hw0, hE0, hB⟩ : ∃ w0, w.alloc (.cells #[.string ⟨x.name.toArray⟩, .slice x.A x.rows.length x.cap] 54) = w0 ∧ Ev w w0 ∧ Bx 54 w.heap.size #[.string ⟨x.name.toArray⟩, .slice x.A x.rows.length x.cap] w0 := ⟨_, rfl, Ev.alloc _ _, Bx.new _ _ _⟩
  obtain ⟨⟨t0, t1⟩, _⟩ := hB.two
  have HE0 := Lib.hid hE0
  have HS := Lib.hid (fun w1 => str_compare ⟨x.name.toArray⟩ ⟨nm.toArray⟩ w1)
  have HK : Hid (Lib.compareBytes (⟨x.name.toArray⟩ : ByteArray).data.toList (⟨nm.toArray⟩ : ByteArray).data.toList = k) := Lib.hid (by simpa using hk)
  rw [HK.out] at HS
  clear hB hE0 hk
  go_enter Tryz.func65, Tryz.ntmps65
  go_wp2_with (first
    | ((with_reducible refine (HS.out _).mono ?_); rintro e w1 ⟨rfl, rfl⟩))
  go_ret
  exact ⟨rfl, HE0.out⟩
set_option maxRecDepth 100000 in
set_option maxHeartbeats 8000000 in
theorem bt_search0 (nm : By) (A : Option Addr) (c : Nat) (w : World) (h : Sl 2 dlc w A 0 c []) :
    Calls Tryz.prog 64 #[.slice A 0 c, .string ⟨nm.toArray⟩, .func (.func 65) #[] #[]] w fun e w' => e = .returned (.tuple #[.int .i64 0, .bool false]) ∧ Ev w w' := by
  have hcl := h.le
  have hcm := h.max
  clear h
  go_enter Tryz.func64, Tryz.ntmps64
  go_wp2
  refine wp_loop_rounds 1 ?_
  rw [rounds_succ]
  go_wp2
  go_ret2
  exact ⟨rfl, Ev.refl _⟩
set_option maxRecDepth 100000 in
set_option maxHeartbeats 8000000 in
theorem bt_search1 (x0 : DL) (nm : By) (k0 : Int) (A : Option Addr) (c : Nat) (w : World) (h : Sl 2 dlc w A 1 c [x0]) (hk0 : Lib.compareBytes x0.name nm = k0) :
    Calls Tryz.prog 64 #[.slice A 1 c, .string ⟨nm.toArray⟩, .func (.func 65) #[] #[]] w fun e w' => e = .returned (.tuple #[.int .i64 (if k0 < 0 then 1 else 0), .bool (decide (k0 = 0))]) ∧ Ev w w' := by
  have hcl := h.le
  have hcm := h.max
  have HN0 := Lib.hid (fun w1 => bt_byName x0 nm k0 hk0 w1)
  obtain ⟨b, off, rfl, _, _⟩ := h.rd (by omega)
  have HC : Hid (∀ w1, Ev w w1 → b < w1.heap.size ∧ w1.cell? ⟨b, off, none⟩ = some (.string ⟨x0.name.toArray⟩) ∧ w1.cell? ⟨b, off + 1, none⟩ = some (.slice x0.A x0.rows.length x0.cap)) := Lib.hid (fun w1 hE => by
    obtain ⟨b', off', e, hb, hc⟩ := (h.ev hE).rd (by omega)
    injection e with e
    injection e with e1 e2 _
    subst e1; subst e2
    exact ⟨hb, hc 0 x0 rfl 0 _ rfl, hc 0 x0 rfl 1 _ rfl⟩)
  obtain ⟨hb, c0, c1⟩ := HC.out w (Ev.refl _)
  clear h hk0
  by_cases h0 : k0 < 0
  · have h1 : ¬ k0 = 0 := by omega
    simp only [h0, if_true, h1, decide_false]
    go_enter Tryz.func64, Tryz.ntmps64
    go_wp2
    refine wp_loop_rounds 2 ?_
    rw [rounds_succ]
    go_wp2_with (first | ((with_reducible refine (HN0.out _).mono ?_); rintro e w1 ⟨rfl, hE1⟩; have E1 := Lib.hid (hE1); clear hE1 hb c0 c1; obtain ⟨hb, c0, c1⟩ := HC.out _ E1.out))
    rw [rounds_succ]
    go_wp2
    go_ret2
    exact ⟨rfl, E1.out⟩
  · by_cases h1 : k0 = 0
    · subst h1
      simp only [Int.lt_irrefl, if_false, decide_true]
      go_enter Tryz.func64, Tryz.ntmps64
      go_wp2
      refine wp_loop_rounds 2 ?_
      rw [rounds_succ]
      go_wp2_with (first | ((with_reducible refine (HN0.out _).mono ?_); rintro e w1 ⟨rfl, hE1⟩; have E1 := Lib.hid (hE1); clear hE1 hb c0 c1; obtain ⟨hb, c0, c1⟩ := HC.out _ E1.out))
      rw [rounds_succ]
      go_wp2_with (first | ((with_reducible refine (HN0.out _).mono ?_); rintro e w2 ⟨rfl, hE2⟩; have E2 := Lib.hid (E1.out.trans hE2); clear hE2 hb c0 c1; obtain ⟨hb, c0, c1⟩ := HC.out _ E2.out))
      go_ret2
      exact ⟨rfl, E2.out⟩
    · have h2 : (k0 == 0) = false := by simp [h1]
      simp only [h0, if_false, h1, decide_false]
      go_enter Tryz.func64, Tryz.ntmps64
      go_wp2
      refine wp_loop_rounds 2 ?_
      rw [rounds_succ]
      go_wp2_with (first | ((with_reducible refine (HN0.out _).mono ?_); rintro e w1 ⟨rfl, hE1⟩; have E1 := Lib.hid (hE1); clear hE1 hb c0 c1; obtain ⟨hb, c0, c1⟩ := HC.out _ E1.out))
      rw [rounds_succ]
      go_wp2_with (first | ((with_reducible refine (HN0.out _).mono ?_); rintro e w2 ⟨rfl, hE2⟩; have E2 := Lib.hid (E1.out.trans hE2); clear hE2 hb c0 c1; obtain ⟨hb, c0, c1⟩ := HC.out _ E2.out))
      go_ret2
      exact ⟨rfl, E2.out⟩
set_option maxRecDepth 100000 in
set_option maxHeartbeats 8000000 in
theorem bt_search2_0 (x0 x1 : DL) (nm : By) (A : Option Addr) (c : Nat) (w : World) (h : Sl 2 dlc w A 2 c [x0, x1]) (hk0 : Lib.compareBytes x0.name nm = 0) (hk1 : Lib.compareBytes x1.name nm = 1) :
    Calls Tryz.prog 64 #[.slice A 2 c, .string ⟨nm.toArray⟩, .func (.func 65) #[] #[]] w fun e w' => e = .returned (.tuple #[.int .i64 0, .bool true]) ∧ Ev w w' := by
  have hcl := h.le
  have hcm := h.max
  have HN0 := Lib.hid (fun w1 => bt_byName x0 nm _ hk0 w1)
  have HN1 := Lib.hid (fun w1 => bt_byName x1 nm _ hk1 w1)
  obtain ⟨b, off, rfl, _, _⟩ := h.rd (by omega)
  have HC : Hid (∀ w1, Ev w w1 → b < w1.heap.size ∧ w1.cell? ⟨b, off, none⟩ = some (.string ⟨x0.name.toArray⟩) ∧ w1.cell? ⟨b, off + 1, none⟩ = some (.slice x0.A x0.rows.length x0.cap) ∧ w1.cell? ⟨b, off + 2, none⟩ = some (.string ⟨x1.name.toArray⟩) ∧ w1.cell? ⟨b, off + 3, none⟩ = some (.slice x1.A x1.rows.length x1.cap)) := Lib.hid (fun w1 hE => by
    obtain ⟨b', off', e, hb, hc⟩ := (h.ev hE).rd (by omega)
    injection e with e
    injection e with e1 e2 _
    subst e1; subst e2
    exact ⟨hb, hc 0 x0 rfl 0 _ rfl, hc 0 x0 rfl 1 _ rfl, hc 1 x1 rfl 0 _ rfl, hc 1 x1 rfl 1 _ rfl⟩)
  obtain ⟨hb, c0, c1, c2, c3⟩ := HC.out w (Ev.refl _)
  clear h hk0 hk1
  go_enter Tryz.func64, Tryz.ntmps64
  go_wp2
  refine wp_loop_rounds 3 ?_
  rw [rounds_succ]
  go_wp2_with (first | ((with_reducible refine (HN1.out _).mono ?_); rintro e w1 ⟨rfl, hE1⟩; have E1 := Lib.hid (hE1); clear hE1 hb c0 c1 c2 c3; obtain ⟨hb, c0, c1, c2, c3⟩ := HC.out _ E1.out))
  rw [rounds_succ]
  go_wp2_with (first | ((with_reducible refine (HN0.out _).mono ?_); rintro e w2 ⟨rfl, hE2⟩; have E2 := Lib.hid (E1.out.trans hE2); clear hE2 hb c0 c1 c2 c3; obtain ⟨hb, c0, c1, c2, c3⟩ := HC.out _ E2.out))
  rw [rounds_succ]
  go_wp2_with (first | ((with_reducible refine (HN0.out _).mono ?_); rintro e w3 ⟨rfl, hE3⟩; have E3 := Lib.hid (E2.out.trans hE3); clear hE3 hb c0 c1 c2 c3; obtain ⟨hb, c0, c1, c2, c3⟩ := HC.out _ E3.out))
  go_ret2
  exact ⟨rfl, E3.out⟩
set_option maxRecDepth 100000 in
set_option maxHeartbeats 8000000 in
theorem bt_search2_1 (x0 x1 : DL) (nm : By) (A : Option Addr) (c : Nat) (w : World) (h : Sl 2 dlc w A 2 c [x0, x1]) (hk0 : Lib.compareBytes x0.name nm = -1) (hk1 : Lib.compareBytes x1.name nm = 0) :
    Calls Tryz.prog 64 #[.slice A 2 c, .string ⟨nm.toArray⟩, .func (.func 65) #[] #[]] w fun e w' => e = .returned (.tuple #[.int .i64 1, .bool true]) ∧ Ev w w' := by
  have hcl := h.le
  have hcm := h.max
  have HN0 := Lib.hid (fun w1 => bt_byName x0 nm _ hk0 w1)
  have HN1 := Lib.hid (fun w1 => bt_byName x1 nm _ hk1 w1)
  obtain ⟨b, off, rfl, _, _⟩ := h.rd (by omega)
  have HC : Hid (∀ w1, Ev w w1 → b < w1.heap.size ∧ w1.cell? ⟨b, off, none⟩ = some (.string ⟨x0.name.toArray⟩) ∧ w1.cell? ⟨b, off + 1, none⟩ = some (.slice x0.A x0.rows.length x0.cap) ∧ w1.cell? ⟨b, off + 2, none⟩ = some (.string ⟨x1.name.toArray⟩) ∧ w1.cell? ⟨b, off + 3, none⟩ = some (.slice x1.A x1.rows.length x1.cap)) := Lib.hid (fun w1 hE => by
    obtain ⟨b', off', e, hb, hc⟩ := (h.ev hE).rd (by omega)
    injection e with e
    injection e with e1 e2 _
    subst e1; subst e2
    exact ⟨hb, hc 0 x0 rfl 0 _ rfl, hc 0 x0 rfl 1 _ rfl, hc 1 x1 rfl 0 _ rfl, hc 1 x1 rfl 1 _ rfl⟩)
  obtain ⟨hb, c0, c1, c2, c3⟩ := HC.out w (Ev.refl _)
  clear h hk0 hk1
  go_enter Tryz.func64, Tryz.ntmps64
  go_wp2
  refine wp_loop_rounds 3 ?_
  rw [rounds_succ]
  go_wp2_with (first | ((with_reducible refine (HN1.out _).mono ?_); rintro e w1 ⟨rfl, hE1⟩; have E1 := Lib.hid (hE1); clear hE1 hb c0 c1 c2 c3; obtain ⟨hb, c0, c1, c2, c3⟩ := HC.out _ E1.out))
  rw [rounds_succ]
  go_wp2_with (first | ((with_reducible refine (HN0.out _).mono ?_); rintro e w2 ⟨rfl, hE2⟩; have E2 := Lib.hid (E1.out.trans hE2); clear hE2 hb c0 c1 c2 c3; obtain ⟨hb, c0, c1, c2, c3⟩ := HC.out _ E2.out))
  rw [rounds_succ]
  go_wp2_with (first | ((with_reducible refine (HN1.out _).mono ?_); rintro e w3 ⟨rfl, hE3⟩; have E3 := Lib.hid (E2.out.trans hE3); clear hE3 hb c0 c1 c2 c3; obtain ⟨hb, c0, c1, c2, c3⟩ := HC.out _ E3.out))
  go_ret2
  exact ⟨rfl, E3.out⟩
end Go.Proofs.YthpiobkghfdkkaaGreat
