/-
  Texts that belong together: Boxes of structs; the document's own leaf. Chapter 8 in plain words: expressions, their kinds and values; expressions in memory. The document's own Read in plain words; what is open in memory. Where the trees stand that are read. The law's own function placed.
-/
import Derived.Test.YtnljagmpeifikaaDoorZ14B
import Derived.Test.YtnljagmpeifikaaDoorZ5B
import Derived.Test.YtnljagmpeifikaaDoorZ0B
namespace Go.Proofs.YtnljagmpeifikaaDoor
open Go.RowKit
set_option linter.unusedVariables false

/-- A struct in its own box. -/
structure Bx (T : TypeId) (g : Nat) (cs : Array Value) (w : World) : Prop where
  blk : w.heap[g]? = some (.cells cs T (0, 0))
theorem Bx.but {K : List Nat} {T : TypeId} {g : Nat} {cs : Array Value} {w w' : World} (h : Bx T g cs w) (hb : But K w w') (hn : g ∉ K) : Bx T g cs w' := ⟨hb.heap h.blk hn⟩
theorem Bx.ev {T : TypeId} {g : Nat} {cs : Array Value} {w w' : World} (h : Bx T g cs w) (hE : Ev w w') : Bx T g cs w' := h.but (But.of_ev (K := []) hE) (by simp)
theorem Bx.lt {T : TypeId} {g : Nat} {cs : Array Value} {w : World} (h : Bx T g cs w) : g < w.heap.size := (Array.getElem?_eq_some_iff.1 h.blk).1
theorem Bx.cell {T : TypeId} {g : Nat} {cs : Array Value} {w : World} (h : Bx T g cs w) (i : Nat) : w.cell? ⟨g, i, none⟩ = cs[i]? := by rw [Lib.cell_of_heap h.blk]
theorem Bx.frozen {T : TypeId} {g : Nat} {cs : Array Value} {w : World} (h : Bx T g cs w) (i : Nat) : w.frozen? ⟨g, i, none⟩ = false := Lib.frozen_of_heap h.blk i
theorem Bx.set {T : TypeId} {g : Nat} {cs : Array Value} {w : World} (h : Bx T g cs w) (i : Nat) (v : Value) : Bx T g (cs.setIfInBounds i v) (w.setCell ⟨g, i, none⟩ v) := ⟨ow_set_heap i v h.blk⟩
theorem Bx.new (T : TypeId) (cs : Array Value) (w : World) : Bx T w.heap.size cs (w.alloc (.cells cs T)) := ⟨heap_alloc_new w _⟩
theorem Bx.five {T : TypeId} {g : Nat} {w : World} {v0 v1 v2 v3 v4 : Value} (h : Bx T g #[v0, v1, v2, v3, v4] w) : (w.cell? ⟨g, 0, none⟩ = some v0 ∧ w.cell? ⟨g, 1, none⟩ = some v1 ∧ w.cell? ⟨g, 2, none⟩ = some v2 ∧ w.cell? ⟨g, 3, none⟩ = some v3 ∧ w.cell? ⟨g, 4, none⟩ = some v4) ∧
    (w.frozen? ⟨g, 0, none⟩ = false ∧ w.frozen? ⟨g, 1, none⟩ = false ∧ w.frozen? ⟨g, 2, none⟩ = false ∧ w.frozen? ⟨g, 3, none⟩ = false ∧ w.frozen? ⟨g, 4, none⟩ = false) :=
  ⟨⟨h.cell 0, h.cell 1, h.cell 2, h.cell 3, h.cell 4⟩, h.frozen 0, h.frozen 1, h.frozen 2, h.frozen 3, h.frozen 4⟩
theorem Bx.four {T : TypeId} {g : Nat} {w : World} {v0 v1 v2 v3 : Value} (h : Bx T g #[v0, v1, v2, v3] w) : (w.cell? ⟨g, 0, none⟩ = some v0 ∧ w.cell? ⟨g, 1, none⟩ = some v1 ∧ w.cell? ⟨g, 2, none⟩ = some v2 ∧ w.cell? ⟨g, 3, none⟩ = some v3) ∧
    (w.frozen? ⟨g, 0, none⟩ = false ∧ w.frozen? ⟨g, 1, none⟩ = false ∧ w.frozen? ⟨g, 2, none⟩ = false ∧ w.frozen? ⟨g, 3, none⟩ = false) :=
  ⟨⟨h.cell 0, h.cell 1, h.cell 2, h.cell 3⟩, h.frozen 0, h.frozen 1, h.frozen 2, h.frozen 3⟩
/-- All cells of a box are stored. -/
def set4 (g : Nat) (v0 v1 v2 v3 : Value) (w : World) : World := (((w.setCell ⟨g, 0, none⟩ v0).setCell ⟨g, 1, none⟩ v1).setCell ⟨g, 2, none⟩ v2).setCell ⟨g, 3, none⟩ v3
def set5 (g : Nat) (v0 v1 v2 v3 v4 : Value) (w : World) : World := (set4 g v0 v1 v2 v3 w).setCell ⟨g, 4, none⟩ v4
theorem set5_fold (g : Nat) (v0 v1 v2 v3 v4 : Value) (w : World) : ((((w.setCell ⟨g, 0, none⟩ v0).setCell ⟨g, 1, none⟩ v1).setCell ⟨g, 2, none⟩ v2).setCell ⟨g, 3, none⟩ v3).setCell ⟨g, 4, none⟩ v4 = set5 g v0 v1 v2 v3 v4 w := rfl
theorem set4_fold (g : Nat) (v0 v1 v2 v3 : Value) (w : World) : (((w.setCell ⟨g, 0, none⟩ v0).setCell ⟨g, 1, none⟩ v1).setCell ⟨g, 2, none⟩ v2).setCell ⟨g, 3, none⟩ v3 = set4 g v0 v1 v2 v3 w := rfl
theorem set4_but (g : Nat) (v0 v1 v2 v3 : Value) (w : World) : But [g] w (set4 g v0 v1 v2 v3 w) :=
  (((But.setCell ⟨g, 0, none⟩ _ (by simp)).then (But.setCell ⟨g, 1, none⟩ _ (by simp))).then (But.setCell ⟨g, 2, none⟩ _ (by simp))).then (But.setCell ⟨g, 3, none⟩ _ (by simp))
theorem set5_but (g : Nat) (v0 v1 v2 v3 v4 : Value) (w : World) : But [g] w (set5 g v0 v1 v2 v3 v4 w) := (set4_but g v0 v1 v2 v3 w).then (But.setCell ⟨g, 4, none⟩ _ (by simp))
theorem Bx.set4 {T : TypeId} {g : Nat} {w : World} {u0 u1 u2 u3 : Value} (h : Bx T g #[u0, u1, u2, u3] w) (v0 v1 v2 v3 : Value) : Bx T g #[v0, v1, v2, v3] (set4 g v0 v1 v2 v3 w) := by
  have := (((h.set 0 v0).set 1 v1).set 2 v2).set 3 v3
  rw [show (((((#[u0, u1, u2, u3] : Array Value).setIfInBounds 0 v0).setIfInBounds 1 v1).setIfInBounds 2 v2).setIfInBounds 3 v3) = #[v0, v1, v2, v3] by simp] at this
  exact this
theorem Bx.set5 {T : TypeId} {g : Nat} {w : World} {u0 u1 u2 u3 u4 : Value} (h : Bx T g #[u0, u1, u2, u3, u4] w) (v0 v1 v2 v3 v4 : Value) : Bx T g #[v0, v1, v2, v3, v4] (set5 g v0 v1 v2 v3 v4 w) := by
  have := ((((h.set 0 v0).set 1 v1).set 2 v2).set 3 v3).set 4 v4
  rw [show ((((((#[u0, u1, u2, u3, u4] : Array Value).setIfInBounds 0 v0).setIfInBounds 1 v1).setIfInBounds 2 v2).setIfInBounds 3 v3).setIfInBounds 4 v4) = #[v0, v1, v2, v3, v4] by simp] at this
  exact this
/-- A box of one's own, stored into: what was there stays. -/
theorem Ev.box {w w1 w2 : World} {g : Nat} (h : Ev w w1) (hb : But [g] w1 w2) (hg : w.heap.size ≤ g) : Ev w w2 :=
  ((But.of_ev (K := [g]) h).then hb).ev fun k hk => by simp at hk; omega

theorem results_cell1 {P : Program} {fn : Func} {p : Tmp} {ty : TypeId} (h : fn.results = #[.cell p ty]) (tmps : Array Value) (w : World) (g : Nat) (cs : Array Value) (d : TypeDesc)
    (hp : tmps.getD p undef = .pointer (some ⟨g, 0, none⟩)) (hg : Bx ty g cs w)
    (hu : P.underlying ty = some d) (hd : (match d with | .struct _ | .array _ _ => true | _ => false) = true) (hi : (P.info? ty).map (·.size) = some cs.size) :
    (results fn tmps).run P w = .ok (.agg cs) w := by
  have hp' : tmps[p]?.getD undef = .pointer (some ⟨g, 0, none⟩) := by simpa using hp
  simp [results, h, hp', asAddr, run_loadVar_row w g ty ty cs (0, 0) d hg.blk hu hd hi]
theorem results_cell3 {P : Program} {fn : Func} {p u1 u2 u3 : Tmp} {ty : TypeId} (h : fn.results = #[.cell p ty, .tmp u1, .tmp u2, .tmp u3]) (tmps : Array Value) (w : World) (g : Nat) (cs : Array Value) (d : TypeDesc)
    (hp : tmps.getD p undef = .pointer (some ⟨g, 0, none⟩)) (hg : Bx ty g cs w)
    (hu : P.underlying ty = some d) (hd : (match d with | .struct _ | .array _ _ => true | _ => false) = true) (hi : (P.info? ty).map (·.size) = some cs.size) :
    (results fn tmps).run P w = .ok (.tuple #[.agg cs, tmps.getD u1 undef, tmps.getD u2 undef, tmps.getD u3 undef]) w := by
  have hp' : tmps[p]?.getD undef = .pointer (some ⟨g, 0, none⟩) := by simpa using hp
  simp [results, h, hp', asAddr, run_loadVar_row w g ty ty cs (0, 0) d hg.blk hu hd hi]
theorem results_cell2' {P : Program} {fn : Func} {p u1 u2 : Tmp} {ty : TypeId} (h : fn.results = #[.cell p ty, .tmp u1, .tmp u2]) (tmps : Array Value) (w : World) (g : Nat) (cs : Array Value) (d : TypeDesc)
    (hp : tmps.getD p undef = .pointer (some ⟨g, 0, none⟩)) (hg : Bx ty g cs w)
    (hu : P.underlying ty = some d) (hd : (match d with | .struct _ | .array _ _ => true | _ => false) = true) (hi : (P.info? ty).map (·.size) = some cs.size) :
    (results fn tmps).run P w = .ok (.tuple #[.agg cs, tmps.getD u1 undef, tmps.getD u2 undef]) w :=
  results_cell2 h tmps w g ty cs (0, 0) d hp hg.blk hu hd hi
theorem Tryd.sizeRTree : (Tryd.prog.info? 24).map (·.size) = some 5 := by kernel_rfl

theorem sxText_n : ∀ (N : Nat) (r b : By) (i : Nat), r.length ≤ N → (sxTextGo b r i).n = 0 := by
  intro N
  induction N with
  | zero =>
    intro r b i h
    have : r = [] := List.eq_nil_of_length_eq_zero (by omega)
    subst this
    rfl
  | succ N ih =>
    intro r b i h
    cases r with
    | nil => rfl
    | cons c q =>
      simp at h
      unfold sxTextGo
      split
      · exact ih q _ _ h
      · split
        · split
          · rfl
          · rename_i x q1
            simp at h
            split
            · rfl
            · split
              · rfl
              · rename_i y q2
                simp at h
                split
                · rfl
                · exact ih q2 _ _ (by omega)
        · split
          · split <;> rfl
          · rfl

theorem sxNum_kind (plus : Bool) (d : By) : ((sxNum plus d).why = 0 → (sxNum plus d).kind = 3 ∧ (sxNum plus d).s = []) ∧ ((sxNum plus d).why ≠ 0 → (sxNum plus d).why = 12 ∧ (sxNum plus d).fault = 0) := by
  unfold sxNum
  split
  · exact ⟨(fun h => by cases h), (fun _ => ⟨rfl, rfl⟩)⟩
  · split
    · exact ⟨(fun h => by cases h), (fun _ => ⟨rfl, rfl⟩)⟩
    · split
      · exact ⟨fun _ => ⟨rfl, rfl⟩, fun h => absurd rfl h⟩
      · exact ⟨fun _ => ⟨rfl, rfl⟩, fun h => absurd rfl h⟩
theorem sxNumber_both (l : By) : ((sxNumber l).why = 0 → (sxNumber l).kind = 3 ∧ (sxNumber l).s = []) ∧ ((sxNumber l).why ≠ 0 → (sxNumber l).why = 12 ∧ (sxNumber l).fault = 0) := by
  unfold sxNumber
  split
  · exact sxNum_kind _ _
  · split
    · exact sxNum_kind _ _
    · exact sxNum_kind _ _
theorem sxNumber_kind (l : By) : (sxNumber l).why = 0 → (sxNumber l).kind = 3 ∧ (sxNumber l).s = [] := (sxNumber_both l).1
theorem sxNumber_bad (l : By) : (sxNumber l).why ≠ 0 → (sxNumber l).why = 12 ∧ (sxNumber l).fault = 0 := (sxNumber_both l).2
/-- What leaf gives. -/
def LeafOut (X : Tk) (i : Nat) (w : World) (e : Ending) (w' : World) : Prop :=
  ∃ (k n p en wh : Int) (sb : ByteArray), e = .returned (.tuple #[.agg #[.int .i64 k, .string sb, .int .i64 n, .slice none 0 0, .int .i64 p], .int .i64 en, .int .i64 X.why, .int .i64 wh]) ∧
    (X.why = 0 → k = X.kind ∧ sb = ⟨X.s.toArray⟩ ∧ n = X.n ∧ p = (i : Int) ∧ en = ((i + X.size : Nat) : Int)) ∧ (X.why ≠ 0 → wh = ((i + X.fault : Nat) : Int)) ∧ Ev w w'

set_option maxRecDepth 100000 in
set_option maxHeartbeats 4000000 in
theorem rf_leaf (s : ByteArray) (w : World) (hs : s.size ≤ 100000) (i : Nat) (hi : i < s.size) (c : UInt8) (hc0 : s.data.toList[i]? = some c) (hk : c.toNat = 34 ∨ c.toNat = 45 ∨ sxLetter c = true ∨ sxDigit c = true) :
    Calls Tryd.prog 13 #[.string s, .int .i64 (i : Int)] w (LeafOut (sxScan (s.data.toList.drop i)) i w) := by
  have hll : s.data.toList.length = s.size := by rw [Array.length_toList]; rfl
  have HL := Lib.hid hll
  have hidx : ∀ hh, s[i]'hh = c := fun hh => by
    have := sx_at s i hh
    rw [this] at hc0
    exact Option.some.inj hc0
  have g0 : (0 : Int) ≤ (i : Int) := by omega
  have g1 : (i : Int) < (s.size : Int) := by omega
  have hdr := sx_dropped hc0
  obtain ⟨X, hX⟩ : ∃ X, X = sxScan (s.data.toList.drop i) := ⟨_, rfl⟩
  rw [← hX]
  have hB := Bx.new 24 #[.int .i64 0, .string ⟨#[]⟩, .int .i64 0, .slice none 0 0, .int .i64 0] w
  have hE := Ev.alloc w (.cells #[.int .i64 0, .string ⟨#[]⟩, .int .i64 0, .slice none 0 0, .int .i64 0] 24)
  obtain ⟨w0, hw0⟩ : ∃ w0, w.alloc (.cells #[.int .i64 0, .string ⟨#[]⟩, .int .i64 0, .slice none 0 0, .int .i64 0] 24) = w0 := ⟨_, rfl⟩
  rw [hw0] at hB hE
  have HB := Lib.hid hB
  have HE := Lib.hid hE
  clear hB hE
  by_cases h34 : c.toNat = 34
  · have e34 : (c.toNat : Int) = 34 := by omega
    have HT := Lib.hid (fun w1 : World => rf_text s w1 hs i hi)
    rw [hdr] at hX
    simp [sxScan, h34] at hX
    have hp := sxText_props _ (s.data.toList.drop (i + 1)) [] 1 (Nat.le_refl _)
    have hn := sxText_n _ (s.data.toList.drop (i + 1)) [] 1 (Nat.le_refl _)
    rw [← hX] at hp hn HT
    have HP := Lib.hid hp
    have HN := Lib.hid hn
    clear hX hdr hc0 hp hn
    go_enter Tryd.func13, Tryd.ntmps13
    go_wp2_with (first | ((with_reducible refine (HT.out _).mono ?_); rintro e w1 ⟨sb, en, wh, rfl, HO, hE1⟩; have B1 := HB.out.ev hE1; have E1 := HE.out.trans hE1; obtain ⟨⟨c0, c1, c2, c3, c4⟩, f0, f1, f2, f3, f4⟩ := B1.five))
    (try simp only [Exit.inBlock, Exit.then])
    rw [set5_fold]
    refine bodyPost_ret (results_cell3 rfl _ _ _ _ _ rfl (B1.set5 _ _ _ _ _) Tryd.underlying24 rfl Tryd.sizeRTree) rfl ?_
    exact ⟨_, _, _, _, _, _, rfl, fun h => ⟨((HP.out.2 h).1).symm, (HO.ok h).1, HN.out.symm, rfl, (HO.ok h).2⟩, HO.bad, E1.box (set5_but _ _ _ _ _ _ _) (Nat.le_refl _)⟩
  · have e34 : ¬ ((c.toNat : Int) = 34) := by omega
    have e34' : ((c.toNat : Int) == 34) = false := beq_eq_false_iff_ne.2 e34
    have HLT := Lib.hid rf_letter
    have HC := rf_letter c
    cases hlc : sxLetter c with
    | true =>
      rw [hlc] at HC
      have HC := Lib.hid HC
      have hlc2 := hlc
      unfold sxLetter at hlc2
      simp at hlc2
      have hnd : sxDigit c = false := by unfold sxDigit; simp; omega
      rw [hdr] at hX
      simp only [sxScan, hlc, hnd, show (c.toNat == 40) = false by simp; omega, show (c.toNat == 41) = false by simp; omega, show (c.toNat == 34) = false by simp; omega, show (c.toNat == 45) = false by simp; omega] at hX
      simp at hX
      rw [← hdr] at hX
      have hrl := sxRun_le sxLetter (s.data.toList.drop i)
      rw [List.length_drop, hll] at hrl
      obtain ⟨q, hq⟩ : ∃ q, q = sxRun sxLetter (s.data.toList.drop i) := ⟨_, rfl⟩
      rw [← hq] at hX hrl
      have HX := Lib.hid hX
      have HQ := Lib.hid hq
      clear hX hdr hc0 hq hll
      go_enter Tryd.func13, Tryd.ntmps13
      go_wp2_with (first | ((with_reducible refine (HC.out _).mono ?_); rintro e w1 ⟨rfl, rfl⟩))
      go_loop [12] (fun iv => ∃ j : Nat, iv = .int .i64 (j : Int) ∧ i ≤ j ∧ j ≤ s.size ∧ Hid (sxRun sxLetter (s.data.toList.drop j) + (j - i) = q)) (fun iv => s.size - (intOf iv).toNat)
      case atStart => exact ⟨i, rfl, Nat.le_refl _, by omega, Lib.hid (by rw [HQ.out]; omega)⟩
      case round =>
        obtain ⟨j, rfl, hj0, hj1, HJ⟩ := hrel
        obtain ⟨⟨c0, c1, c2, c3, c4⟩, f0, f1, f2, f3, f4⟩ := HB.out.five
        have hi0 : (0 : Int) ≤ (i : Int) := by omega
        have hij : (i : Int) ≤ (j : Int) := by omega
        have hjs : (j : Int) ≤ (s.size : Int) := by omega
        have HXT : Hid (j - i = q → (s.extract i j) = ⟨((s.data.toList.drop i).take q).toArray⟩) := Lib.hid fun h => by
          apply ByteArray.ext
          apply Array.toList_inj.1
          rw [Lib.extract_eq, h]
        have HXE : Hid (j - i = q → (j : Int) = ((i + q : Nat) : Int)) := Lib.hid (fun h => by omega)
        by_cases hlt : j < s.size
        · have hat := sx_at s j hlt
          obtain ⟨x, ex⟩ : ∃ x, s[j] = x := ⟨_, rfl⟩
          have hx1 : ∀ hh, s[j]'hh = x := fun _ => ex
          rw [ex] at hat
          have hst := sxRun_step sxLetter s.data.toList j x hat
          have q0 : (0 : Int) ≤ (j : Int) := by omega
          have q1 : (j : Int) < (s.size : Int) := by omega
          have HXL := HLT.out x
          cases hxl : sxLetter x with
          | true =>
            rw [hxl] at HXL hst
            simp only [if_true] at hst
            have HXL := Lib.hid HXL
            have HJ2 : Hid (sxRun sxLetter (s.data.toList.drop (j + 1)) + (j + 1 - i) = q) := Lib.hid (by have := HJ.out; omega)
            clear hst hat ex
            go_wp2_with (first | ((with_reducible refine (HXL.out _).mono ?_); rintro e w1 ⟨rfl, rfl⟩))
            go_round
            case rel => exact ⟨j + 1, by go_num, by omega, by omega, HJ2⟩
            case measure => simp [intOf]; omega
          | false =>
            rw [hxl] at HXL hst
            simp only [Bool.false_eq_true, if_false] at hst
            have HXL := Lib.hid HXL
            have hjq : j - i = q := by have := HJ.out; omega
            have HJQ := Lib.hid hjq
            clear hst hat ex hjq
            go_wp2_with (first | ((with_reducible refine (HXL.out _).mono ?_); rintro e w1 ⟨rfl, rfl⟩))
            (try simp only [Exit.inBlock, Exit.then])
            rw [set5_fold]
            refine bodyPost_ret (results_cell3 rfl _ _ _ _ _ rfl (HB.out.set5 _ _ _ _ _) Tryd.underlying24 rfl Tryd.sizeRTree) rfl ?_
            exact ⟨_, _, _, _, _, _, (by rw [HX.out]; rfl), (fun _ => by rw [HX.out]; exact ⟨rfl, HXT.out HJQ.out, rfl, rfl, HXE.out HJQ.out⟩), (fun h => absurd (by rw [HX.out]) h), HE.out.box (set5_but _ _ _ _ _ _ _) (Nat.le_refl _)⟩
        · have q1 : ¬ ((j : Int) < (s.size : Int)) := by omega
          have hjq : j - i = q := by
            have := HJ.out
            rw [List.drop_of_length_le (by rw [HL.out]; omega)] at this
            simp [sxRun] at this
            exact this
          have HJQ := Lib.hid hjq
          clear hjq
          go_wp2
          (try simp only [Exit.inBlock, Exit.then])
          rw [set5_fold]
          refine bodyPost_ret (results_cell3 rfl _ _ _ _ _ rfl (HB.out.set5 _ _ _ _ _) Tryd.underlying24 rfl Tryd.sizeRTree) rfl ?_
          exact ⟨_, _, _, _, _, _, (by rw [HX.out]; rfl), (fun _ => by rw [HX.out]; exact ⟨rfl, HXT.out HJQ.out, rfl, rfl, HXE.out HJQ.out⟩), (fun h => absurd (by rw [HX.out]) h), HE.out.box (set5_but _ _ _ _ _ _ _) (Nat.le_refl _)⟩
    | false =>
      rw [hlc] at HC
      have HC := Lib.hid HC
      have hk2 : c.toNat = 45 ∨ sxDigit c = true := by
        rcases hk with h | h | h | h
        · exact absurd h h34
        · exact .inl h
        · rw [hlc] at h; cases h
        · exact .inr h
      have hX2 : X = sxNumber (s.data.toList.drop i) := by
        rw [hX, hdr]
        have h4 : (c.toNat == 40) = false ∧ (c.toNat == 41) = false := by
          rcases hk2 with h | h
          · simp [h]
          · unfold sxDigit at h; simp at h; simp; omega
        have h5 : (c.toNat == 45 || sxDigit c) = true := by simp; exact hk2
        simp only [sxScan, h4.1, h4.2, h5, show (c.toNat == 34) = false by simp; omega]
        simp
      have HN := fun w1 => rf_number s w1 hs i c hi hc0
      rw [← hX2] at HN
      have HN := Lib.hid HN
      have HX3 : Hid (X.why = 0 → X.kind = 3 ∧ X.s = []) := Lib.hid (by rw [hX2]; exact sxNumber_kind _)
      have HX4 : Hid (X.why ≠ 0 → X.why = 12 ∧ X.fault = 0) := Lib.hid (by rw [hX2]; exact sxNumber_bad _)
      obtain ⟨wy, hwy⟩ : ∃ wy, wy = X.why := ⟨_, rfl⟩
      rw [← hwy] at HN
      clear hX hX2 hdr hc0
      by_cases hw : wy = 0
      · have hwb : (wy == 0) = true := by rw [hw]; rfl
        rw [hwb] at HN
        subst hw
        have HW := Lib.hid hwy
        clear hwy hwb
        go_enter Tryd.func13, Tryd.ntmps13
        go_wp2_with (first
          | ((with_reducible refine (HC.out _).mono ?_); rintro e w1 ⟨rfl, rfl⟩)
          | ((with_reducible refine (HN.out _).mono ?_); rintro e w1 ⟨j, rfl, hj, hE1⟩; have HJ := Lib.hid (hj (by simp)); clear hj; have B1 := HB.out.ev hE1; have E1 := HE.out.trans hE1; obtain ⟨⟨c0, c1, c2, c3, c4⟩, f0, f1, f2, f3, f4⟩ := B1.five))
        (try simp only [Exit.inBlock, Exit.then])
        rw [set5_fold]
        refine bodyPost_ret (results_cell3 rfl _ _ _ _ _ rfl (B1.set5 _ _ _ _ _) Tryd.underlying24 rfl Tryd.sizeRTree) rfl ?_
        exact ⟨_, _, _, _, _, _, by rw [← HW.out]; rfl, (fun h => ⟨((HX3.out h).1).symm, (by rw [(HX3.out h).2]), rfl, rfl, (by rw [HJ.out])⟩), (fun h => absurd HW.out.symm h), E1.box (set5_but _ _ _ _ _ _ _) (Nat.le_refl _)⟩
      · have hwb : (wy == 0) = false := beq_eq_false_iff_ne.2 hw
        rw [hwb] at HN
        have HW := Lib.hid hwy
        have HW2 := Lib.hid hw
        clear hwy hwb hw
        go_enter Tryd.func13, Tryd.ntmps13
        go_wp2_with (first
          | ((with_reducible refine (HC.out _).mono ?_); rintro e w1 ⟨rfl, rfl⟩)
          | ((with_reducible refine (HN.out _).mono ?_); rintro e w1 ⟨j, rfl, hj, hE1⟩; clear hj; have B1 := HB.out.ev hE1; have E1 := HE.out.trans hE1; obtain ⟨⟨c0, c1, c2, c3, c4⟩, f0, f1, f2, f3, f4⟩ := B1.five))
        (try simp only [Exit.inBlock, Exit.then])
        rw [set5_fold]
        refine bodyPost_ret (results_cell3 rfl _ _ _ _ _ rfl (B1.set5 _ _ _ _ _) Tryd.underlying24 rfl Tryd.sizeRTree) rfl ?_
        exact ⟨_, _, _, _, _, _, by rw [(HX4.out (by rw [← HW.out]; exact HW2.out)).1]; rfl, (fun h => absurd (HW.out.trans h) HW2.out), (fun h => by rw [(HX4.out h).2]; rfl), E1.box (set5_but _ _ _ _ _ _ _) (Nat.le_refl _)⟩
end Go.Proofs.YtnljagmpeifikaaDoor

namespace Go.Proofs.YtnljagmpeifikaaDoor
open Go.RowKit
set_option linter.unusedVariables false

/-- The operations. -/
def bAdd : By := [97, 100, 100]
def bSub : By := [115, 117, 98]
def bMul : By := [109, 117, 108]
def bEq : By := [101, 113]
def bLt : By := [108, 116]
def bAnd : By := [97, 110, 100]
def bOr : By := [111, 114]
def bCat : By := [99, 97, 116]
def bNeg : By := [110, 101, 103]
def bNot : By := [110, 111, 116]
def bLen : By := [108, 101, 110]
def bIf : By := [105, 102]
def xTwo (s : By) : Bool := s == bAdd || s == bSub || s == bMul || s == bEq || s == bLt || s == bAnd || s == bOr || s == bCat
def xOne (s : By) : Bool := s == bNeg || s == bNot || s == bLen
def xTakes (s : By) : Nat := if xTwo s then 2 else if xOne s then 1 else if s == bIf then 3 else 0
def bstr (s : By) : ByteArray := ⟨s.toArray⟩
abbrev xName (s : By) : Bool := nameV (bstr s)
/-- P8.1: the expression of a tree, or why there is none, and where. An expression is a tree without places. -/
abbrev XRes := T × Int × Nat
def xBad (why : Int) (pos : Nat) : XRes := (sxZero, why, pos)
/-- The operands' results, one behind the other. -/
def xReads (s : By) (done : List T) : List XRes → XRes
  | [] => (.mk 4 s 0 done 0, 0, 0)
  | r :: l => if r.2.1 == 0 then xReads s (done ++ [r.1]) l else (sxZero, r.2.1, r.2.2)
mutual
def xRead : T → XRes
  | .mk k s n l p =>
    if k == 2 then (if xName s then (.mk 1 s 0 [] 0, 0, 0) else xBad 20 p)
    else if k == 3 then (.mk 2 [] n [] 0, 0, 0)
    else if k == 4 then (.mk 3 s 0 [] 0, 0, 0)
    else if k == 1 then
      (match l with
        | [] => xBad 12 p
        | h :: q => if h.kind == 2 && !(xTakes h.s == 0) then
            (if q.length == xTakes h.s then xReads h.s [] (xReadAll q) else xBad 23 p) else xBad 12 p)
    else xBad 12 p
def xReadAll : List T → List XRes
  | [] => []
  | t :: l => xRead t :: xReadAll l
end
/-- Is it none of what Read makes, whatever its Kids are? -/
def xForeign (e : T) : Bool :=
  if e.kind == 1 then !xName e.s || !(e.n == 0) || !e.kids.isEmpty
  else if e.kind == 2 then !e.s.isEmpty || !e.kids.isEmpty
  else if e.kind == 3 then !(e.n == 0) || !e.kids.isEmpty
  else if e.kind == 4 then xTakes e.s == 0 || !(e.n == 0) || !(e.kids.length == xTakes e.s)
  else true
mutual
def xRight : T → Bool
  | .mk k s n l p => !xForeign (.mk k s n l p) && xRights l
def xRights : List T → Bool
  | [] => true
  | t :: l => xRight t && xRights l
end
mutual
def T.size : T → Nat
  | .mk _ _ _ l _ => T.sizes l + 1
def T.sizes : List T → Nat
  | [] => 0
  | t :: l => t.size + T.sizes l
end
/-- P8.2. -/
def xAll (ks : List Int) (k : Int) : Bool := ks.all (· == k)
def xApplied (s : By) (ks : List Int) : Int × Int :=
  if s == bAdd || s == bSub || s == bMul || s == bNeg || s == bAnd || s == bOr || s == bNot then (if xAll ks 1 then (1, 0) else (0, 22))
  else if s == bEq || s == bLt then (if ks.getD 0 0 == ks.getD 1 0 then (1, 0) else (0, 22))
  else if s == bCat then (if xAll ks 2 then (2, 0) else (0, 22))
  else if s == bLen then (if xAll ks 2 then (1, 0) else (0, 22))
  else if s == bIf then (if ks.getD 0 0 == 1 && ks.getD 1 0 == ks.getD 2 0 then (ks.getD 1 0, 0) else (0, 22))
  else (0, 22)
/-- The results, one behind the other: the first error, or what they make. -/
def xKindsGo (s : By) (done : List Int) : List (Int × Int) → Int × Int
  | [] => xApplied s done
  | r :: l => if r.2 == 0 then xKindsGo s (done ++ [r.1]) l else (0, r.2)
mutual
def xKind (cols : List C) : T → Int × Int
  | .mk k s n l p =>
    if k == 1 then (match findC cols (bstr s) with | none => (0, 20) | some i => ((cols.getD i (⟨#[]⟩, 0)).2, 0))
    else if k == 2 then (1, 0)
    else if k == 3 then (2, 0)
    else xKindsGo s [] (xKinds cols l)
def xKinds (cols : List C) : List T → List (Int × Int)
  | [] => []
  | t :: l => xKind cols t :: xKinds cols l
end
def xType (cols : List C) (e : T) : Int × Int := if xRight e then xKind cols e else (0, 22)
/-- P8.3. -/
abbrev VRes := V × Int
def v0 : V := (0, 0, ⟨#[]⟩)
def vNum (n : Int) : V := (1, n, ⟨#[]⟩)
def vStr (s : ByteArray) : V := (2, 0, s)
def xTruth (b : Bool) : VRes := (vNum (if b then 1 else 0), 0)
def xFit (n : Int) : VRes := if -9223372036854775808 ≤ n ∧ n ≤ 9223372036854775807 then (vNum n, 0) else (v0, 26)
def xPerform (s : By) (a b : V) : VRes :=
  if s == bAdd then xFit (a.2.1 + b.2.1)
  else if s == bSub then xFit (a.2.1 - b.2.1)
  else if s == bMul then xFit (a.2.1 * b.2.1)
  else if s == bNeg then xFit (-a.2.1)
  else if s == bEq then xTruth (!lessVV a b && !lessVV b a)
  else if s == bLt then xTruth (lessVV a b)
  else if s == bAnd then xTruth (!(a.2.1 == 0) && !(b.2.1 == 0))
  else if s == bOr then xTruth (!(a.2.1 == 0) || !(b.2.1 == 0))
  else if s == bNot then xTruth (a.2.1 == 0)
  else if s == bCat then (if a.2.2.size + b.2.2.size ≤ 40 then (vStr (a.2.2 ++ b.2.2), 0) else (v0, 3))
  else if s == bLen then (vNum (a.2.2.size : Int), 0)
  else (v0, 22)
def xChoose : List VRes → VRes
  | a :: b :: c :: _ => if a.2 == 0 then (if a.1.2.1 == 0 then c else b) else (v0, a.2)
  | _ => (v0, 22)
def xEvalsGo (s : By) (done : List V) : List VRes → VRes
  | [] => xPerform s (done.getD 0 v0) (done.getD (done.length - 1) v0)
  | r :: l => if r.2 == 0 then xEvalsGo s (done ++ [r.1]) l else (v0, r.2)
mutual
def xEval (cols : List C) (r : List V) : T → VRes
  | .mk k s n l p =>
    if k == 1 then (match findC cols (bstr s) with | none => (v0, 0) | some i => (r.getD i v0, 0))
    else if k == 2 then (vNum n, 0)
    else if k == 3 then (vStr (bstr s), 0)
    else if s == bIf then xChoose (xEvals cols r l)
    else xEvalsGo s [] (xEvals cols r l)
def xEvals (cols : List C) (r : List V) : List T → List VRes
  | [] => []
  | t :: l => xEval cols r t :: xEvals cols r l
end
def xValue (cols : List C) (r : List V) (e : T) : VRes := if (xType cols e).2 == 0 && fitsL cols r then xEval cols r e else (v0, 22)

/-- An expression's cells; it in memory, all of it in blocks that are not of K. -/
def ec (m : M) : List Value := [.int .i64 m.kind, .string ⟨m.s.toArray⟩, .int .i64 m.n, m.kv]
def ev_ (m : M) : Value := .agg #[.int .i64 m.kind, .string ⟨m.s.toArray⟩, .int .i64 m.n, m.kv]
abbrev Es := Sl 4 ec
theorem encE : Enc 4 ec := ⟨by omega, fun _ => rfl, fun x u hu => by
  simp [ec, M.kv] at hu
  rcases hu with rfl | rfl | rfl | rfl <;> rfl⟩
inductive Lx (b0 : Nat) (K : List Nat) (w : World) : M → Prop
  | mk {kind : Int} {s : By} {n : Int} {A : Option Addr} {cap : Nat} {kids : List M} {pos : Nat} : Es w A kids.length cap kids → (∀ ad, A = some ad → b0 ≤ ad.block ∧ ad.block < w.heap.size ∧ ad.block ∉ K) → (∀ k ∈ kids, Lx b0 K w k) →
      Lx b0 K w (.mk kind s n A cap kids pos)
theorem Lx.es {b0 : Nat} {K : List Nat} {w : World} {m : M} (h : Lx b0 K w m) : Es w m.A m.kids.length m.cap m.kids := by
  cases h with
  | mk h1 h2 h3 => exact h1
theorem Lx.kid {b0 : Nat} {K : List Nat} {w : World} {m : M} (h : Lx b0 K w m) : ∀ k ∈ m.kids, Lx b0 K w k := by
  cases h with
  | mk h1 h2 h3 => exact h3
theorem Lx.move {b0 : Nat} {K K' : List Nat} {w w' : World} {m : M} (h : Lx b0 K w m) (hb : But K w w') (hs : ∀ x ∈ K', x ∈ K ∨ x < b0 ∨ w.heap.size ≤ x) : Lx b0 K' w' m := by
  induction h with
  | mk h1 h2 h3 ih =>
    refine .mk (h1.but hb fun ad e => (h2 ad e).2.2) (fun ad e => ⟨(h2 ad e).1, Nat.lt_of_lt_of_le (h2 ad e).2.1 hb.size, fun hm => ?_⟩) ih
    rcases hs _ hm with h4 | h4 | h4
    · exact (h2 ad e).2.2 h4
    · have := (h2 ad e).1; omega
    · have := (h2 ad e).2.1; omega
theorem Lx.ev {b0 : Nat} {K : List Nat} {w w' : World} {m : M} (h : Lx b0 K w m) (hE : Ev w w') : Lx b0 K w' m := h.move (But.of_ev hE) fun _ hx => .inl hx
theorem Lx.low {b0 b1 : Nat} {K : List Nat} {w : World} {m : M} (h : Lx b1 K w m) (hb : b0 ≤ b1) : Lx b0 K w m := by
  induction h with
  | mk h1 h2 h3 ih => exact .mk h1 (fun ad e => ⟨Nat.le_trans hb (h2 ad e).1, (h2 ad e).2⟩) ih
theorem Lx.less {b0 : Nat} {K K' : List Nat} {w : World} {m : M} (h : Lx b0 K w m) (hs : ∀ x ∈ K', x ∈ K ∨ x < b0 ∨ w.heap.size ≤ x) : Lx b0 K' w m := h.move (But.refl _ _) hs
theorem Lx.leaf {b0 : Nat} {K : List Nat} {w : World} {k : Int} {s : By} {n : Int} {p : Nat} : Lx b0 K w (.mk k s n none 0 [] p) := .mk (Sl.nil_ w) (fun _ h => by cases h) (fun _ h => by cases h)
/-- Expression i of a slice. -/
theorem Es.cell {w : World} {A : Option Addr} {n cap : Nat} {l : List M} (h : Es w A n cap l) {i : Nat} {x : M} (hx : l[i]? = some x) : ∃ b off, A = some ⟨b, off, none⟩ ∧ b < w.heap.size ∧
    w.cell? ⟨b, off + i * 4, none⟩ = some (.int .i64 x.kind) ∧ w.cell? ⟨b, off + i * 4 + 1, none⟩ = some (.string ⟨x.s.toArray⟩) ∧ w.cell? ⟨b, off + i * 4 + 2, none⟩ = some (.int .i64 x.n) ∧ w.cell? ⟨b, off + i * 4 + 3, none⟩ = some x.kv := by
  have hi := (List.getElem?_eq_some_iff.1 hx).1
  have hl := h.len
  obtain ⟨b, off, e, hlt, hc⟩ := h.rd (by omega)
  exact ⟨b, off, e, hlt, hc i x hx 0 _ rfl, hc i x hx 1 _ rfl, hc i x hx 2 _ rfl, hc i x hx 3 _ rfl⟩
-- How deep, how many parts.
mutual
def M.dep : M → Nat
  | .mk _ _ _ _ _ l _ => M.deps l + 1
def M.deps : List M → Nat
  | [] => 0
  | m :: l => max m.dep (M.deps l)
end
theorem M.dep_kid : ∀ (l : List M) (k : M), k ∈ l → k.dep ≤ M.deps l
  | [], k, h => by cases h
  | m :: l, k, h => by
    rcases List.mem_cons.1 h with rfl | h
    · simp [M.deps]; omega
    · have := M.dep_kid l k h
      simp [M.deps]; omega
theorem M.dep_eq (m : M) : m.dep = M.deps m.kids + 1 := by cases m; rfl
theorem M.kid_dep {m k : M} (h : k ∈ m.kids) : k.dep < m.dep := by
  have := M.dep_kid m.kids k h
  rw [M.dep_eq m]
  omega
theorem M.t_s (m : M) : m.t.s = m.s := by rw [M.t_eq]; rfl
theorem M.t_n (m : M) : m.t.n = m.n := by rw [M.t_eq]; rfl
theorem xReadAll_map : ∀ l : List T, xReadAll l = l.map xRead
  | [] => rfl
  | t :: l => by simp [xReadAll, xReadAll_map l]
theorem xRights_all : ∀ l : List T, xRights l = l.all xRight
  | [] => rfl
  | t :: l => by simp [xRights, xRights_all l]
theorem xKinds_map (cols : List C) : ∀ l : List T, xKinds cols l = l.map (xKind cols)
  | [] => rfl
  | t :: l => by simp [xKinds, xKinds_map cols l]
theorem xEvals_map (cols : List C) (r : List V) : ∀ l : List T, xEvals cols r l = l.map (xEval cols r)
  | [] => rfl
  | t :: l => by simp [xEvals, xEvals_map cols r l]
theorem T.sizes_sum : ∀ l : List T, T.sizes l = (l.map T.size).sum
  | [] => rfl
  | t :: l => by simp [T.sizes, T.sizes_sum l]
end Go.Proofs.YtnljagmpeifikaaDoor

namespace Go.Proofs.YtnljagmpeifikaaDoor
open Go.RowKit
set_option linter.unusedVariables false

def rfStarter (c : UInt8) : Bool := c.toNat == 40 || c.toNat == 34 || c.toNat == 45 || sxLetter c || sxDigit c
def rfPop (os : List T) : List T := match os.getLast? with | none => os | some e => sxPut os.dropLast e
def rfWhole (os : List T) (pos : Nat) : Res := if 1 < os.length then (sxZero, 10, pos) else sxWhole os pos
/-- The document's own Read. -/
def rfGo : Nat → List T → By → Nat → Res
  | 0, _, _, _ => (sxZero, 12, 0)
  | _ + 1, os, [], pos => rfWhole os pos
  | f + 1, os, c :: q, pos =>
    if sxBlank c then rfGo f os q (pos + 1)
    else if c.toNat == 41 then (if os.length == 1 then (sxZero, 12, pos) else rfGo f (rfPop os) q (pos + 1))
    else if !rfStarter c then (sxZero, 12, pos)
    else if os.length == 1 && sxDone os then (sxZero, 11, pos)
    else if c.toNat == 40 then (if 12 < os.length then (sxZero, 14, pos) else rfGo f (os ++ [.mk 1 [] 0 [] pos]) q (pos + 1))
    else if (sxScan (c :: q)).why == 0 then rfGo f (sxPut os ((sxScan (c :: q)).tree pos)) ((c :: q).drop (sxScan (c :: q)).size) (pos + (sxScan (c :: q)).size)
    else (sxZero, (sxScan (c :: q)).why, pos + (sxScan (c :: q)).fault)
def rfRead (l : By) : Res := if 600 < l.length then (sxZero, 3, 0) else rfGo (l.length + 1) [sxZero] l 0

abbrev RT : TypeId := 24
theorem encM : Enc 5 mc := ⟨by omega, fun _ => rfl, fun x u hu => mlist_ones [x] u (by rw [mlist_one_]; exact hu)⟩
theorem Tryd.infoRTree : (Tryd.prog.info? 24).map (fun i => (i.zero, i.size, i.bytes)) = some (some (.agg #[.int .i64 0, .string ⟨#[]⟩, .int .i64 0, .slice none 0 0, .int .i64 0]), 5, 64) := by kernel_rfl

theorem Ow.low {α : Type} {k : Nat} {enc : α → List Value} {et : TypeId} {b0 b : Nat} {w : World} {v : Value} {Z : List α} (h : Ow et k enc b w v Z) (hb : b0 ≤ b) : Ow et k enc b0 w v Z :=
  ⟨h.1, h.2.imp id fun ⟨g, cap, cur, h1, h2, r⟩ => ⟨g, cap, cur, h1, Nat.le_trans hb h2, r⟩⟩
/-- In the midst of reading: the list of what is open lies in block g. -/
structure RfSt (w0 : World) (g q cap : Nat) (os : List M) (i : Nat) (w : World) : Prop where
  own : Ow 24 5 mc (w0.heap.size + 1) w (.slice (some ⟨g, 0, none⟩) (q + 1) cap) os
  len : os.length = q + 1
  lies : ∀ e ∈ os, Lies (w0.heap.size + 1) [g] w e
  ev : Ev w0 w
  box : Bx 24 w0.heap.size #[.int .i64 0, .string ⟨#[]⟩, .int .i64 0, .slice none 0 0, .int .i64 0] w
  few : os.length ≤ i + 1
  kids : ∀ e ∈ os, e.kids.length ≤ i
theorem RfSt.wider {w0 w : World} {g q cap i i' : Nat} {os : List M} (h : RfSt w0 g q cap os i w) (hi : i ≤ i') : RfSt w0 g q cap os i' w :=
  ⟨h.own, h.len, h.lies, h.ev, h.box, by have := h.few; omega, fun e he => by have := h.kids e he; omega⟩
theorem RfSt.evs {w0 w w' : World} {g q cap i : Nat} {os : List M} (h : RfSt w0 g q cap os i w) (hE : Ev w w') : RfSt w0 g q cap os i w' :=
  ⟨h.own.ev hE, h.len, fun e he => (h.lies e he).ev hE, h.ev.trans hE, h.box.ev hE, h.few, h.kids⟩
theorem RfSt.at {w0 w : World} {g q cap i : Nat} {os : List M} (h : RfSt w0 g q cap os i w) : w0.heap.size + 1 ≤ g ∧ g < w.heap.size ∧ q + 1 ≤ cap ∧ cap ≤ 9223372036854775807 ∧ (∀ i, w.frozen? ⟨g, i, none⟩ = false) ∧
    ∀ i x, os[i]? = some x → w.cell? ⟨g, i * 5, none⟩ = some (.int .i64 x.kind) ∧ w.cell? ⟨g, i * 5 + 1, none⟩ = some (.string ⟨x.s.toArray⟩) ∧ w.cell? ⟨g, i * 5 + 2, none⟩ = some (.int .i64 x.n) ∧ w.cell? ⟨g, i * 5 + 3, none⟩ = some x.kv ∧ w.cell? ⟨g, i * 5 + 4, none⟩ = some (.int .i64 (x.pos : Int)) := by
  obtain ⟨A, cap', hv, hS, hA⟩ := h.own.form encM
  injection hv with h1 h2 h3
  subst h1; subst h3
  obtain ⟨_, h4, h5, _, h6⟩ := hA _ rfl
  have hle := hS.le
  rw [h.len] at hle
  refine ⟨h4, h5, hle, hS.max, h6, fun i x hx => ?_⟩
  obtain ⟨b, off, e, _, hc⟩ := hS.rd (by rw [h.len]; omega)
  injection e with e
  injection e with e1 e2 _
  subst e1; subst e2
  have key : ∀ j u, (mc x)[j]? = some u → w.cell? ⟨g, i * 5 + j, none⟩ = some u := fun j u hu => by
    have := hc i x hx j u hu
    rwa [Nat.zero_add] at this
  exact ⟨key 0 _ rfl, key 1 _ rfl, key 2 _ rfl, key 3 _ rfl, key 4 _ rfl⟩
/-- A tree is put behind the Kids of the one at place r: its Kids in new memory, the place written. -/
theorem RfSt.graft {w0 w W : World} {g q cap i i' : Nat} {os1 os2 : List M} {e m : M} (h : RfSt w0 g q cap (os1 ++ e :: os2) i w) (hE : Ev w W) {v : Value} (hv : Ow 24 5 mc w.heap.size W v (e.kids ++ [m])) (hm : Lies (w0.heap.size + 1) [g] W m) (hi : i < i') :
    ∃ e' : M, e'.t = e.t.add m.t ∧ RfSt w0 g q cap (os1 ++ e' :: os2) i' (W.setCell ⟨g, os1.length * 5 + 3, none⟩ v) := by
  obtain ⟨A, cap', rfl, hS, hA⟩ := hv.form encM
  obtain ⟨e', he'⟩ : ∃ e', e' = M.mk e.kind e.s e.n A cap' (e.kids ++ [m]) e.pos := ⟨_, rfl⟩
  have hg := h.at
  have hkl : e'.kids = e.kids ++ [m] := by rw [he']; rfl
  have hB : But [g] W (W.setCell ⟨g, os1.length * 5 + 3, none⟩ (.slice A (e.kids ++ [m]).length cap')) := But.setCell _ _ (by simp)
  refine ⟨e', ?_, ?_, ?_, ?_, ?_, ?_, ?_, ?_⟩
  · rw [he', M.t_eq, T.add, M.t_eq e]
    simp [M.kind, M.s, M.n, M.kids, M.pos, T.kind, T.s, T.n, T.kids, T.pos]
  · have h1 := (h.own.ev hE).set encM (i := os1.length) (j := 3) (x := e) (x' := e') (u := .slice A (e.kids ++ [m]).length cap') (by simp) (by omega) (by rw [he']; simp [mc, M.kv, M.kind, M.s, M.n, M.A, M.kids, M.cap, M.pos])
    have h2 : (os1 ++ e :: os2).set os1.length e' = os1 ++ e' :: os2 := by simp
    rwa [h2] at h1
  · have := h.len
    simp at this ⊢
    omega
  · intro x hx
    have hold : ∀ y, y ∈ os1 ++ e :: os2 → Lies (w0.heap.size + 1) [g] (W.setCell ⟨g, os1.length * 5 + 3, none⟩ (.slice A (e.kids ++ [m]).length cap')) y := fun y hy => ((h.lies y hy).ev hE).move hB fun _ hx => .inl hx
    rcases List.mem_append.1 hx with h1 | h1
    · exact hold x (List.mem_append_left _ h1)
    · rcases List.mem_cons.1 h1 with rfl | h1
      · subst he'
        refine .mk (hS.but hB fun ad e0 => ?_) (fun ad e0 => ?_) fun y hy => ?_
        · have := (hA ad e0).2.1
          simp
          have := hg.2.1
          omega
        · obtain ⟨_, h3, h4, _⟩ := hA ad e0
          have := hE.size
          have := hg.1
          have := hg.2.1
          refine ⟨by omega, by simpa [World.setCell] using h4, ?_⟩
          simp
          omega
        · rcases List.mem_append.1 hy with h2 | h2
          · exact (hold e (by simp)).kid y h2
          · simp at h2
            subst h2
            exact hm.move hB fun _ hx => .inl hx
      · exact hold x (List.mem_append_right _ (List.mem_cons_of_mem _ h1))
  · exact (h.ev.trans hE).box hB (by have := hg.1; omega)
  · exact (h.box.ev hE).but hB (by simp; have := hg.1; omega)
  · have := h.few
    simp at this ⊢
    omega
  · intro x hx
    rcases List.mem_append.1 hx with h1 | h1
    · have := h.kids x (List.mem_append_left _ h1); omega
    · rcases List.mem_cons.1 h1 with rfl | h1
      · have := h.kids e (by simp)
        rw [hkl]
        simp
        omega
      · have := h.kids x (List.mem_append_right _ (List.mem_cons_of_mem _ h1)); omega
theorem RfSt.pop {w0 w : World} {g q cap i : Nat} {os : List M} {e : M} (h : RfSt w0 g (q + 1) cap (os ++ [e]) i w) : RfSt w0 g q cap os i w := by
  have hl : os.length = q + 1 := by have := h.len; simp at this; omega
  refine ⟨?_, hl, fun e he => h.lies e (List.mem_append_left _ he), h.ev, h.box, by have := h.few; simp at this; omega, fun e he => h.kids e (List.mem_append_left _ he)⟩
  have := h.own.to encM rfl (q + 1) (by simp; omega)
  rwa [← hl, List.take_left' rfl, hl] at this
theorem RfSt.push {w0 w W : World} {g q cap i i' : Nat} {os : List M} {m : M} (h : RfSt w0 g q cap os i w) (hE : Ev w W) {v : Value} (hv : Ow 24 5 mc w.heap.size W v (os ++ [m])) (hm : ∀ w K, Lies (w0.heap.size + 1) K w m) (hk : m.kids = []) (hi : i < i') :
    ∃ g' cap', v = .slice (some ⟨g', 0, none⟩) (q + 1 + 1) cap' ∧ RfSt w0 g' (q + 1) cap' (os ++ [m]) i' W := by
  have hl : (os ++ [m]).length = q + 1 + 1 := by have := h.len; simp; omega
  obtain ⟨A, cap', hvv, hS, hA⟩ := hv.form encM
  subst hvv
  rw [hl] at hv hS hA ⊢
  obtain ⟨b, off, rfl, _, _⟩ := hS.rd (by omega)
  obtain ⟨_, h3, h4, h5, _⟩ := hA _ rfl
  simp at h5
  subst h5
  have hg := h.at
  simp at h3
  have hb0 : w0.heap.size + 1 ≤ w.heap.size := by have := hg.1; have := hg.2.1; omega
  refine ⟨b, cap', rfl, ⟨hv.low hb0, hl, ?_, h.ev.trans hE, h.box.ev hE, by have := h.few; simp; omega, ?_⟩⟩
  · intro e he
    rcases List.mem_append.1 he with h1 | h1
    · exact (h.lies e h1).move (But.of_ev (K := [g]) hE) fun x hx => by
        simp at hx
        subst hx
        exact .inr (.inr h3)
    · simp at h1
      subst h1
      exact hm _ _
  · intro e he
    rcases List.mem_append.1 he with h1 | h1
    · have := h.kids e h1; omega
    · simp at h1
      subst h1
      rw [hk]; simp

theorem RfSt.init (w : World) : RfSt w (w.heap.size + 1) 0 1 [mzero] 0 ((w.alloc (.cells #[.int .i64 0, .string ⟨#[]⟩, .int .i64 0, .slice none 0 0, .int .i64 0] 24)).alloc (.cells #[.int .i64 0, .string ⟨#[]⟩, .int .i64 0, .slice none 0 0, .int .i64 0] 24)) := by
  have hE := Ev.alloc w (.cells #[.int .i64 0, .string ⟨#[]⟩, .int .i64 0, .slice none 0 0, .int .i64 0] 24)
  refine ⟨?_, rfl, fun e he => ?_, hE.trans (Ev.alloc _ _), (Bx.new _ _ w).ev (Ev.alloc _ _), by simp, fun e he => ?_⟩
  · have := Ow.made (et := 24) (base := w.heap.size + 1) encM (w.alloc (.cells #[.int .i64 0, .string ⟨#[]⟩, .int .i64 0, .slice none 0 0, .int .i64 0] 24)) [mzero] #[.int .i64 0, .string ⟨#[]⟩, .int .i64 0, .slice none 0 0, .int .i64 0] rfl (by simp) (by simp)
    simpa using this
  · simp at he
    subst he
    exact Lies.zero _ _ _
  · simp at he
    subst he
    simp [mzero, M.kids]
theorem rfPop_snoc (os : List T) (e t : T) : rfPop (os ++ [e] ++ [t]) = os ++ [e.add t] := by
  unfold rfPop
  rw [List.getLast?_append]
  simp only [List.getLast?_singleton, Option.some_or, List.dropLast_concat]
  exact sxPut_snoc _ _ _
theorem sxDone_map {os : List M} {e : M} : sxDone ((e :: os).map M.t) = decide (0 < e.kids.length) := by
  simp only [sxDone, List.map_cons, M.t_kids]
  cases e.kids <;> simp

/-- An empty literal in memory. -/
def Empty0 (et : TypeId) (b : Nat) (v : Value) (w : World) : Prop := ∃ g, v = .slice (some ⟨g, 0, none⟩) 0 0 ∧ w.heap[g]? = some (.cells #[] et (0, 0)) ∧ b ≤ g
theorem Empty0.mono {et : TypeId} {b : Nat} : Mono (Empty0 et b) := fun v w w' hE ⟨g, h1, h2, h3⟩ => ⟨g, h1, by rw [hE.block g (Array.getElem?_eq_some_iff.1 h2).1]; exact h2, h3⟩
theorem Empty0.new {et : TypeId} {b : Nat} {w : World} (h : b ≤ w.heap.size) : Empty0 et b (.slice (some ⟨w.heap.size, 0, none⟩) 0 0) (w.alloc (.cells #[] et)) := ⟨_, rfl, heap_alloc_new w _, h⟩
theorem Empty0.ow {α : Type} {k : Nat} {enc : α → List Value} {et : TypeId} {b : Nat} {v : Value} {w : World} (h : Empty0 et b v w) : Ow et k enc b w v ([] : List α) := by
  obtain ⟨g, rfl, hg, hb⟩ := h
  exact ⟨by simp [cl], .inr ⟨g, 0, #[], rfl, hb, hg, Nat.le_refl _, by decide, by simp, by simp [cl]⟩⟩
/-- append onto an empty literal: nothing that was there turns. -/
theorem run_append_ow0 {α : Type} {k : Nat} {enc : α → List Value} {et : TypeId} {b : Nat} {v : Value} {w : World} {P : Program} (E : Enc k enc) (T ty : TypeId) (ht : P.underlying T = some (.slice et)) {zero : Value} {bytes : Nat} (hi : (P.info? et).map (fun i => (i.zero, i.size, i.bytes)) = some (some zero, k, bytes)) (hz : zero.cells.size = k)
    (hv : Empty0 et b v w) (A : Option Addr) (m c : Nat) (l : List α) (hB : Sl k enc w A m c l) (hbytes : l.length * bytes ≤ 140737488355328) (hsm : l.length ≤ 1000000000) (hbase : b ≤ w.heap.size) :
    ∃ v' w', (Builtin.append_ #[T, T] ty #[v, .slice A m c]).run P w = .ok v' w' ∧ Ow et k enc b w' v' l ∧ Ev w w' := by
  obtain ⟨v', w', hr, h1, h2, h3, h4⟩ := run_append_ow (P := P) E T ty ht hi hz (hv.ow (k := k) (enc := enc)) A m c l hB (by simpa using hbytes) (by simpa using hsm) hbase
  rw [List.nil_append] at h1
  refine ⟨v', w', hr, h1, ?_⟩
  obtain ⟨g, rfl, hg, hbg⟩ := hv
  refine ⟨h2.os, h2.tape, h2.output, h2.size, fun j hj => ?_⟩
  by_cases hjg : j = g
  · subst hjg
    obtain ⟨i, hi0, hz', hsz, hby⟩ := info_parts hi
    have hl := hB.len
    cases A with
    | none =>
      obtain ⟨rfl, rfl⟩ := hB.nil rfl
      have hr2 := run_append_owned_none (P := P) (w := w) b T ty et i k ht hi0 _ _ _ (Empty0.ow (k := k) (enc := enc) ⟨j, rfl, hg, hbg⟩)
      rw [hr] at hr2
      simp only [Result.ok.injEq] at hr2
      rw [hr2.2]
    | some ad =>
      by_cases hm : m = 0
      · subst hm
        have hr2 := run_append_room (P := P) w T ty et i ht hi0 j 0 0 #[] hg ad 0 c [] (by simp) (by simp) (by simp) (by omega) (by simp)
        rw [hr] at hr2
        simp only [Result.ok.injEq] at hr2
        rw [hr2.2, setRow_heap w j #[] _ et (0, 0) hg, hg]
        simp
      · have hcells : ∀ j u, (cl enc l)[j]? = some u → w.cell? (ad.add j) = some u := by
          intro q u hu
          obtain ⟨i', j', x, rfl, hx, hxu⟩ := cl_back E l q u hu
          have hq := (List.getElem?_eq_some_iff.1 hx).1
          obtain ⟨b', off, e, _, hc⟩ := hB.rd (by omega)
          obtain rfl := Option.some.inj e
          have := hc i' x hx j' u hxu
          rw [Addr.add_lit]
          rwa [show off + i' * k + j' = off + (i' * k + j') by omega] at this
        have hr2 := run_append_grow (P := P) w T ty et i zero ht hi0 hz' ⟨j, 0, none⟩ 0 0 [] (by simp) (by simp) ad m c (cl enc l) (by rw [cl_length E, hl, hsz]) hcells (by omega) (by omega) (growslice_fits (by omega) (by rw [hby]; rw [hl] at hbytes; simpa using hbytes))
        rw [hr] at hr2
        simp only [Result.ok.injEq] at hr2
        rw [hr2.2]
        exact ((Ev.drew w).trans (Ev.alloc w.drew _)).block j hj
  · exact h2.block j hj (fun hm => hjg (by have := mem_foot.1 hm; simp [Value.ownBlock] at this; exact this.symm))

theorem wpList_append_ow0 {α : Type} {k : Nat} {enc : α → List Value} {et : TypeId} {base : Nat} {v : Value} {P : Program} {w : World} {ops : Array Oper} {rest : List Oper} {o : Oper} {a : Act} {Q : Exit → Act → World → Prop} (hgd : o.guard = none) (T : TypeId) (s x : Operand)
    (ho : o.op = .call { callee := .builtin .append, args := #[s, x], argTypes := #[T, T] }) (E : Enc k enc)
    (ht : P.underlying T = some (.slice et)) {zero : Value} {bytes : Nat} (hi : (P.info? et).map (fun i => (i.zero, i.size, i.bytes)) = some (some zero, k, bytes)) (hz : zero.cells.size = k)
    (hs : a.eval s = v) (hown : Empty0 et base v w) (A : Option Addr) (m c : Nat) (l : List α) (hx : a.eval x = .slice A m c) (hB : Sl k enc w A m c l)
    (hbytes : l.length * bytes ≤ 140737488355328) (hsm : l.length ≤ 1000000000) (hbase : base ≤ w.heap.size)
    (h : ∀ v' w', Ow et k enc base w' v' l → Ev w w' → wpList P ops Q rest (a.put o.dst v') w') : wpList P ops Q (o :: rest) a w := by
  refine wpList_plain hgd fun K hK => ?_
  obtain ⟨v', w', hr, h2, h3⟩ := run_append_ow0 (P := P) E T o.type ht hi hz hown A m c l hB hbytes hsm hbase
  unfold Oper.wp execOp
  simp only [ho, resolve, invoke, builtin, Sem.run_bind, Sem.run_pure, Result.andThen_ok, List.map_toArray, List.map_cons, List.map_nil, hs, hx, hr]
  exact hK _ _ (h v' w' h2 h3)
/-- Laws for drawn regions over trees of the document's. -/
theorem run_build_none {ρ : Operand → Value} {o : Oper} (ho : o.op = .buildSlice 22 0 #[]) (w : World) : (execOp ρ o).run Tryd.prog w = .ok (.value (.slice (some ⟨w.heap.size, 0, none⟩) 0 0)) (w.alloc (.cells #[] 24)) := by
  unfold execOp
  rw [ho]
  simp [go_sem]
theorem run_build_one {ρ : Operand → Value} {o : Oper} {x : Operand} (m : M) (ho : o.op = .buildSlice 22 1 #[(0, x)]) (h : ρ x = mv m) (w : World) :
    (execOp ρ o).run Tryd.prog w = .ok (.value (.slice (some ⟨w.heap.size, 0, none⟩) 1 1)) (w.alloc (.cells (mc m).toArray 24)) := by
  unfold mv M.kv at h
  unfold mc M.kv
  unfold execOp
  rw [ho]
  simp [h, go_sem]
theorem run_index_tree {ρ : Operand → Value} {o : Oper} {x y : Operand} {g n cap : Nat} (k : Nat) (ho : o.op = .indexAddr 22 x y) (hx : ρ x = .slice (some ⟨g, 0, none⟩) n cap) (hy : ρ y = .int .i64 (k : Int)) (hk : k < n) (w : World) :
    (execOp ρ o).run Tryd.prog w = .ok (.value (.pointer (some ⟨g, k * 5, none⟩))) w := by
  have h1 : (k : Int) < (n : Int) := by omega
  have h2 : (0 : Int) ≤ (k : Int) := by omega
  unfold execOp
  rw [ho]
  simp [hx, hy, go_sem, h1, h2]
theorem run_field_tree {ρ : Operand → Value} {o : Oper} {x : Operand} {g i : Nat} (ho : o.op = .fieldAddr 24 x 3) (hx : ρ x = .pointer (some ⟨g, i, none⟩)) (w : World) :
    (execOp ρ o).run Tryd.prog w = .ok (.value (.pointer (some ⟨g, i + 3, none⟩))) w := by
  unfold execOp
  rw [ho]
  simp [hx, go_sem]
theorem run_load_kids {ρ : Operand → Value} {o : Oper} {x : Operand} {a : Addr} {v : Value} {w : World} (ho : o.op = .load 22 x) (hx : ρ x = .pointer (some a)) (c0 : w.cell? a = some v) :
    (execOp ρ o).run Tryd.prog w = .ok (.value v) w := by
  unfold execOp
  rw [ho]
  simp [hx, go_sem, c0]
theorem run_load_tree {ρ : Operand → Value} {o : Oper} {x : Operand} {b off : Nat} {w : World} (m : M) (ho : o.op = .load 24 x) (hx : ρ x = .pointer (some ⟨b, off, none⟩)) (hc : ∀ j u, (mc m)[j]? = some u → w.cell? ⟨b, off + j, none⟩ = some u) :
    (execOp ρ o).run Tryd.prog w = .ok (.value (mv m)) w := by
  have c0 : w.cell? ⟨b, off, none⟩ = some (.int .i64 m.kind) := hc 0 _ rfl
  have c1 : w.cell? ⟨b, off + 1, none⟩ = some (.string ⟨m.s.toArray⟩) := hc 1 _ rfl
  have c2 : w.cell? ⟨b, off + 2, none⟩ = some (.int .i64 m.n) := hc 2 _ rfl
  have c3 : w.cell? ⟨b, off + 3, none⟩ = some m.kv := hc 3 _ rfl
  have c4 : w.cell? ⟨b, off + 4, none⟩ = some (.int .i64 (m.pos : Int)) := hc 4 _ rfl
  unfold mv
  unfold execOp
  rw [ho]
  simp [hx, go_sem, c0, c1, c2, c3, c4]
theorem run_append_at {P : Program} {a : Act} {o : Oper} {x y : Operand} {T : TypeId} {u v' : Value} {w w' : World} (ho : o.op = .call { callee := .builtin .append, args := #[x, y], argTypes := #[T, T] }) (hy : a.eval y = u)
    (hr : (Builtin.append_ #[T, T] o.type #[a.eval x, u]).run P w = .ok v' w') : (execOp a.eval o).run P w = .ok (.value v') w' := by
  unfold execOp
  simp only [ho, resolve, invoke, builtin, Sem.run_bind, Sem.run_pure, Result.andThen_ok, List.map_toArray, List.map_cons, List.map_nil, hy, hr]
end Go.Proofs.YtnljagmpeifikaaDoor

namespace Go.Proofs.YtnljagmpeifikaaDoor
open Go.RowKit
set_option linter.unusedVariables false

/-- What stands at a leaf's first byte. -/
def leafOk (l : By) (k : Int) (s : By) (n : Int) (b : Nat) : Prop :=
  ∃ c, l[b]? = some c ∧ ((k = 2 ∧ 97 ≤ c.toNat ∧ c.toNat ≤ 122 ∧ ∃ q, s = c :: q) ∨ (k = 3 ∧ (c.toNat = 45 ∧ n ≤ 0 ∨ 48 ≤ c.toNat ∧ c.toNat ≤ 57 ∧ 0 ≤ n)) ∨ (k = 4 ∧ c.toNat = 34))
mutual
/-- A tree stands from b to e. -/
inductive Span (l : By) : T → Nat → Nat → Prop
  | leaf {k : Int} {s : By} {n : Int} {b e : Nat} : leafOk l k s n b → b < e → e ≤ l.length → Span l (.mk k s n [] b) b e
  | opn {s : By} {n : Int} {ks : List T} {b e e1 : Nat} {c : UInt8} : l[b]? = some c → c.toNat = 40 → Chain l ks (b + 1) e1 → b + 1 ≤ e1 → e1 < e → e ≤ l.length → Span l (.mk 1 s n ks b) b e
/-- Trees stand one behind the other from b to e. -/
inductive Chain (l : By) : List T → Nat → Nat → Prop
  | nil {b e : Nat} : b ≤ e → Chain l [] b e
  | cons {b tb te e : Nat} {t : T} {ks : List T} : b ≤ tb → Span l t tb te → Chain l ks te e → Chain l (t :: ks) b e
end
theorem Span.pos {l : By} {t : T} {b e : Nat} (h : Span l t b e) : t.pos = b ∧ b < e ∧ e ≤ l.length ∧ ∃ c, l[b]? = some c := by
  cases h with
  | leaf h1 h2 h3 =>
    obtain ⟨c, hc, _⟩ := h1
    exact ⟨rfl, h2, h3, c, hc⟩
  | opn h1 h2 h3 h4 h5 h6 => exact ⟨rfl, by omega, h6, _, h1⟩
theorem Chain.le {l : By} : ∀ {ks : List T} {b e : Nat}, Chain l ks b e → b ≤ e
  | [], b, e, h => by cases h with | nil h => exact h
  | t :: ks, b, e, h => by
    cases h with
    | cons h1 h2 h3 =>
      have := h2.pos
      have := Chain.le h3
      omega
theorem Chain.wider {l : By} : ∀ {ks : List T} {b e e' : Nat}, Chain l ks b e → e ≤ e' → Chain l ks b e'
  | [], b, e, e', h, he => by cases h with | nil h => exact .nil (by omega)
  | t :: ks, b, e, e', h, he => by
    cases h with
    | cons h1 h2 h3 => exact .cons h1 h2 (Chain.wider h3 he)
theorem Chain.snoc {l : By} : ∀ {ks : List T} {b x tb te : Nat} {t : T}, Chain l ks b x → x ≤ tb → Span l t tb te → Chain l (ks ++ [t]) b te
  | [], b, x, tb, te, t, h, hx, ht => by cases h with | nil h => exact .cons (by omega) ht (.nil (Nat.le_refl _))
  | t' :: ks, b, x, tb, te, t, h, hx, ht => by
    cases h with
    | cons h1 h2 h3 => exact .cons h1 h2 (Chain.snoc h3 hx ht)
theorem Chain.at {l : By} : ∀ {ks : List T} {b e : Nat}, Chain l ks b e → ∀ i t, ks[i]? = some t → ∃ te, Span l t t.pos te ∧ b ≤ t.pos ∧ te ≤ e ∧ ∀ t', ks[i + 1]? = some t' → te ≤ t'.pos ∧ t'.pos < e
  | [], b, e, h, i, t, hi => by simp at hi
  | a :: ks, b, e, h, 0, t, hi => by
    simp at hi
    subst hi
    cases h with
    | cons h1 h2 h3 =>
      have hp := h2.pos
      rw [← hp.1] at h2 h1
      refine ⟨_, h2, h1, h3.le, fun t' ht' => ?_⟩
      cases ks with
      | nil => simp at ht'
      | cons b ks =>
        simp at ht'
        subst ht'
        cases h3 with
        | cons g1 g2 g3 =>
          have := g2.pos
          have := g3.le
          omega
  | a :: ks, b, e, h, i + 1, t, hi => by
    cases h with
    | cons h1 h2 h3 =>
      obtain ⟨te, g1, g2, g3, g4⟩ := Chain.at h3 i t (by simpa using hi)
      have := h2.pos
      exact ⟨te, g1, by omega, g3, fun t' ht' => g4 t' (by simpa using ht')⟩

/-- What is open, the innermost first: its Kids stand in their order up to where one reads. -/
def Stk (l : By) : List T → Nat → Prop
  | [], _ => False
  | [e], cur => Chain l e.kids 0 cur
  | e :: e' :: r, cur => e.kind = 1 ∧ (∃ c, l[e.pos]? = some c ∧ c.toNat = 40) ∧ Chain l e.kids (e.pos + 1) cur ∧ e.pos + 1 ≤ cur ∧ Stk l (e' :: r) e.pos
theorem Stk.wider {l : By} : ∀ {os : List T} {cur cur' : Nat}, Stk l os cur → cur ≤ cur' → Stk l os cur'
  | [], _, _, h, _ => h.elim
  | [e], cur, cur', h, hc => Chain.wider h hc
  | e :: e' :: r, cur, cur', h, hc => ⟨h.1, h.2.1, h.2.2.1.wider hc, by have := h.2.2.2.1; omega, h.2.2.2.2⟩
theorem Stk.put {l : By} {e : T} {r : List T} {i j te : Nat} {t : T} (h : Stk l (e :: r) i) (hij : i ≤ j) (ht : Span l t j te) : Stk l (e.add t :: r) te := by
  have hte := ht.pos
  cases r with
  | nil => exact Chain.snoc (show Chain l e.kids 0 i from h) hij ht
  | cons e' r => exact ⟨h.1, h.2.1, (h.2.2.1).snoc hij ht, by have := h.2.2.2.1; show e.pos + 1 ≤ te; omega, h.2.2.2.2⟩
theorem sxPut_rev (os : List T) (e : T) (r : List T) (t : T) (h : os.reverse = e :: r) : (sxPut os t).reverse = e.add t :: r := by
  have : os = r.reverse ++ [e] := by rw [← List.reverse_reverse os, h, List.reverse_cons]
  rw [this, sxPut_snoc]
  simp
theorem Stk.take {l : By} {os : List T} {i j : Nat} {c : UInt8} {x : Tk} (h : Stk l os.reverse i) (hij : i ≤ j) (hc : l[j]? = some c) (hok : ScanOk c (l.drop j) x) (hw : x.why = 0) (hk : x.kind = -1 → os.length ≠ 1) :
    Stk l (sxTake os (x.tree j)).reverse (j + x.size) := by
  obtain ⟨h1, h2, h3⟩ := hok.good hw
  have hjl := (List.getElem?_eq_some_iff.1 hc).1
  rw [List.length_drop] at h2
  have htk : (x.tree j).kind = x.kind := rfl
  unfold sxTake
  rw [htk]
  cases hr : os.reverse with
  | nil => rw [hr] at h; exact h.elim
  | cons e r =>
    rw [hr] at h
    by_cases k1 : x.kind = 1
    · rw [if_pos (by rw [k1]; rfl), List.reverse_append, hr]
      have hc40 : c.toNat = 40 := by
        rcases h3 with ⟨_, h4⟩ | h4 | ⟨h4, _⟩ | ⟨h4, _⟩ | ⟨h4, _⟩
        · exact h4
        · rw [k1] at h4; cases h4
        · rw [k1] at h4; cases h4
        · rw [k1] at h4; cases h4
        · rw [k1] at h4; cases h4
      exact ⟨k1, ⟨c, hc, hc40⟩, .nil (by show j + 1 ≤ j + x.size; omega), by show j + 1 ≤ j + x.size; omega, h.wider hij⟩
    · rw [if_neg (by simpa using k1)]
      by_cases k2 : x.kind = -1
      · rw [if_pos (by rw [k2]; rfl)]
        have hos : os = r.reverse ++ [e] := by rw [← List.reverse_reverse os, hr, List.reverse_cons]
        have hgl : os.getLast? = some e := by rw [hos]; simp
        have hdl : os.dropLast = r.reverse := by rw [hos]; simp
        rw [hgl, hdl]
        simp only []
        cases r with
        | nil =>
          exfalso
          apply hk k2
          rw [hos]; rfl
        | cons e' r =>
          obtain ⟨g1, ⟨c', g2, g3⟩, g4, g5, g6⟩ := h
          have hsp : Span l e e.pos (j + x.size) := by
            obtain ⟨k, s, n, ks, p⟩ := e
            simp only [T.kind] at g1
            subst g1
            exact .opn g2 g3 g4 g5 (by omega) (by omega)
          rw [sxPut_rev (e' :: r).reverse e' r e (by simp)]
          exact g6.put (Nat.le_refl _) hsp
      · rw [if_neg (by simpa using k2), sxPut_rev os e r _ hr]
        refine h.put hij (.leaf ⟨c, hc, ?_⟩ (by omega) (by omega))
        rcases h3 with ⟨h4, _⟩ | h4 | h4 | h4 | h4
        · exact absurd h4 k1
        · exact absurd h4 k2
        · exact .inl h4
        · exact .inr (.inl h4)
        · exact .inr (.inr h4)
theorem Stk.root {l : By} : ∀ {os : List T} {cur : Nat} {e : T} {r : List T}, Stk l os cur → os.reverse = e :: r → ∃ cur', Chain l e.kids 0 cur'
  | [], _, _, _, h, _ => h.elim
  | [a], cur, e, r, h, hr => by
    simp at hr
    rw [← hr.1]
    exact ⟨cur, h⟩
  | a :: a' :: os, cur, e, r, h, hr => by
    rw [List.reverse_cons] at hr
    cases hq : (a' :: os).reverse with
    | nil => simp at hq
    | cons b q =>
      rw [hq] at hr
      simp at hr
      rw [← hr.1]
      exact Stk.root h.2.2.2.2 hq
theorem sxGo_placed (l : By) : ∀ (f : Nat) (os : List T) (i : Nat), Stk l os.reverse i → i ≤ l.length →
    ((sxGo f os (l.drop i) i).2.1 ≠ 0 → (sxGo f os (l.drop i) i).2.2 ≤ l.length) ∧ ((sxGo f os (l.drop i) i).2.1 = 0 → ∃ b e, Span l (sxGo f os (l.drop i) i).1 b e)
  | 0, os, i, h, hi => ⟨fun _ => Nat.zero_le _, fun h => by cases h⟩
  | f + 1, os, i, h, hi => by
    unfold sxGo
    have hp := sxRun_le sxBlank (l.drop i)
    rw [List.length_drop] at hp
    rw [List.drop_drop]
    generalize sxRun sxBlank (l.drop i) = p at *
    have hij : i ≤ i + p := by omega
    have hj : i + p ≤ l.length := by omega
    generalize i + p = j at *
    cases hd : l.drop j with
    | nil =>
      simp only []
      unfold sxWhole
      cases hos : os with
      | nil => rw [hos] at h; exact h.elim
      | cons e r =>
        simp only []
        cases hk : e.kids with
        | nil => exact ⟨fun _ => hj, fun h => by cases h⟩
        | cons t ks =>
          refine ⟨fun h => absurd rfl h, fun _ => ?_⟩
          obtain ⟨cur', hch⟩ := Stk.root h (e := e) (r := r) (by rw [List.reverse_reverse, hos])
          rw [hk] at hch
          cases hch with
          | cons g1 g2 g3 => exact ⟨_, _, g2⟩
    | cons c q =>
      simp only []
      have hc : l[j]? = some c := by
        have := List.getElem?_drop (xs := l) (i := j) (j := 0)
        rw [hd] at this
        simpa using this.symm
      have hok : ScanOk c (l.drop j) (sxScan (c :: q)) := by rw [hd]; exact sxScan_ok c q
      have hlen : (c :: q).length = l.length - j := by rw [← hd, List.length_drop]
      have hjf := fun h => sxJudge_fault (os := os) hok h
      rw [hd, hlen] at hjf
      have hjo := fun h => sxJudge_ok (os := os) hok h
      by_cases hw : (sxJudge os (sxScan (c :: q))).1 = 0
      · rw [if_pos (by rw [hw]; rfl)]
        obtain ⟨hy, hk, _, _⟩ := hjo hw
        obtain ⟨hz1, hz2, _⟩ := hok.good hy
        rw [hd, hlen] at hz2
        have hst := h.take hij hc hok hy hk
        rw [← hd, List.drop_drop]
        rw [hd]
        exact sxGo_placed l f _ _ hst (by omega)
      · rw [if_neg (by simpa using hw)]
        refine ⟨fun _ => ?_, fun h => absurd h hw⟩
        have := hjf hw
        show j + _ ≤ l.length
        omega
theorem sxRead_placed (l : By) : ((sxRead l).2.1 ≠ 0 → (sxRead l).2.2 ≤ l.length) ∧ ((sxRead l).2.1 = 0 → ∃ b e, Span l (sxRead l).1 b e) := by
  unfold sxRead
  by_cases h : 600 < l.length
  · rw [if_pos h]
    exact ⟨fun _ => Nat.zero_le _, fun h => by cases h⟩
  · rw [if_neg h]
    exact sxGo_placed l _ [sxZero] 0 (.nil (Nat.le_refl _)) (Nat.zero_le _)
end Go.Proofs.YtnljagmpeifikaaDoor

namespace Go.Proofs.YtnljagmpeifikaaDoor
open Go.RowKit
set_option linter.unusedVariables false

theorem tree_box (w : World) (m : M) : (w.alloc (.cells #[.int .i64 m.kind, .string ⟨m.s.toArray⟩, .int .i64 m.n, .slice m.A m.kids.length m.cap, .int .i64 (m.pos : Int)] 36)).heap[w.heap.size]? = some (.cells (mc m).toArray 36 (0, 0)) := heap_alloc_new _ _
theorem box_cells {w : World} {g : Nat} {m : M} (h : w.heap[g]? = some (.cells (mc m).toArray 36 (0, 0))) : w.cell? ⟨g, 0, none⟩ = some (.int .i64 m.kind) ∧ w.cell? ⟨g, 1, none⟩ = some (.string ⟨m.s.toArray⟩) ∧ w.cell? ⟨g, 2, none⟩ = some (.int .i64 m.n) ∧ w.cell? ⟨g, 3, none⟩ = some (.slice m.A m.kids.length m.cap) ∧ w.cell? ⟨g, 4, none⟩ = some (.int .i64 (m.pos : Int)) := by
  refine ⟨?_, ?_, ?_, ?_, ?_⟩ <;> (rw [Lib.cell_of_heap h]; rfl)
theorem box_ev {w w' : World} {g : Nat} {o : Obj} (h : w.heap[g]? = some o) (hE : Ev w w') : w'.heap[g]? = some o := by
  rw [hE.block g (Array.getElem?_eq_some_iff.1 h).1]; exact h

theorem span_leaf {l : By} {m : M} {b e : Nat} (h : Span l m.t b e) (h1 : m.kind ≠ 1) : leafOk l m.kind m.s m.n b := by
  obtain ⟨k, s, n, A, c, ks, p⟩ := m
  simp only [M.t] at h
  generalize hks : M.ts ks = K at h
  cases h with
  | leaf g1 g2 g3 => exact g1
  | opn g1 g2 g3 g4 g5 g6 => exact absurd rfl h1
theorem span_open {l : By} {m : M} {b e : Nat} (h : Span l m.t b e) (h1 : m.kind = 1) : ∃ c e1, l[b]? = some c ∧ c.toNat = 40 ∧ Chain l (m.kids.map M.t) (b + 1) e1 ∧ e1 < e := by
  obtain ⟨k, s, n, A, c, ks, p⟩ := m
  simp only [M.t, M.ts_map] at h
  simp only [M.kind] at h1
  subst h1
  simp only [M.kids]
  generalize ks.map M.t = K at *
  cases h with
  | leaf g1 g2 g3 =>
    obtain ⟨c, _, g4⟩ := g1
    rcases g4 with ⟨g, _⟩ | ⟨g, _⟩ | ⟨g, _⟩ <;> cases g
  | opn g1 g2 g3 g4 g5 g6 => exact ⟨_, _, g1, g2, g3, g5⟩

end Go.Proofs.YtnljagmpeifikaaDoor
