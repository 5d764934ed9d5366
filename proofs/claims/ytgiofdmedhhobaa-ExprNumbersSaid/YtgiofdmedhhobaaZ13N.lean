/-
  Texts that belong together: Boxes of structs; the document's own leaf. Chapter 8 in plain words: expressions, their kinds and values; expressions in memory. The document's own Read in plain words; what is open in memory. The book: two lists of expressions that are alike are told to be so.
-/
import Derived.Test.YtgiofdmedhhobaaZ12N
import Derived.Test.YtgiofdmedhhobaaZ5N
import Derived.Test.YtgiofdmedhhobaaZ0N
namespace Go.Proofs.Ytgiofdmedhhobaa
open Go.RowKit
set_option linter.unusedVariables false

/-- A struct in its own box. -/
structure Bx (T : TypeId) (g : Nat) (cs : Array Value) (w : World) : Prop where
  blk : w.heap[g]? = some (.cells cs T (0, 0))
theorem Bx.but {K : List Nat} {T : TypeId} {g : Nat} {cs : Array Value} {w w' : World} (h : Bx T g cs w) (hb : But K w w') (hn : g ∉ K) : Bx T g cs w' := ⟨hb.heap h.blk hn⟩
theorem Bx.ev {T : TypeId} {g : Nat} {cs : Array Value} {w w' : World} (h : Bx T g cs w) (hE : Ev w w') : Bx T g cs w' := h.but (But.of_ev (K := []) hE) (by simp)
theorem Bx.lt {T : TypeId} {g : Nat} {cs : Array Value} {w : World} (h : Bx T g cs w) : g < w.heap.size := (Array.getElem?_eq_some_iff.1 h.blk).1
theorem Bx.cell {T : TypeId} {g : Nat} {cs : Array Value} {w : World} (h : Bx T g cs w) (i : Nat) : w.cell? ⟨g, i, none⟩ = cs[i]? := by rw [Lib.cell_of_heap h.blk]
theorem Bx.frozen {T : TypeId} {g : Nat} {cs : Array Value} {w : World} (h : Bx T g cs w) (i : Nat) : w.frozen? ⟨g, i, none⟩ = false := Lib.frozen_of_heap h.blk i
theorem Bx.set {T : TypeId} {g : Nat} {cs : Array Value} {w : World} (h : Bx T g cs w) (i : Nat) (v : Value) : Bx T g (cs.setIfInBounds i v) (w.setCell ⟨g, i, none⟩ v) := ⟨ow_set_heap i v h.blk⟩
theorem Bx.new (T : TypeId) (cs : Array Value) (w : World) : Bx T w.heap.size cs (w.alloc (.cells cs T)) := ⟨heap_alloc_new w _⟩
theorem Bx.five {T : TypeId} {g : Nat} {w : World} {v0 v1 v2 v3 v4 : Value} (h : Bx T g #[v0, v1, v2, v3, v4] w) : (w.cell? ⟨g, 0, none⟩ = some v0 ∧ w.cell? ⟨g, 1, none⟩ = some v1 ∧ w.cell? ⟨g, 2, none⟩ = some v2 ∧ w.cell? ⟨g, 3, none⟩ = some v3 ∧ w.cell? ⟨g, 4, none⟩ = some v4) ∧
    (w.frozen? ⟨g, 0, none⟩ = false ∧ w.frozen? ⟨g, 1, none⟩ = false ∧ w.frozen? ⟨g, 2, none⟩ = false ∧ w.frozen? ⟨g, 3, none⟩ = false ∧ w.frozen? ⟨g, 4, none⟩ = false) :=
  ⟨⟨h.cell 0, h.cell 1, h.cell 2, h.cell 3, h.cell 4⟩, h.frozen 0, h.frozen 1, h.frozen 2, h.frozen 3, h.frozen 4⟩
theorem Bx.four {T : TypeId} {g : Nat} {w : World} {v0 v1 v2 v3 : Value} (h : Bx T g #[v0, v1, v2, v3] w) : (w.cell? ⟨g, 0, none⟩ = some v0 ∧ w.cell? ⟨g, 1, none⟩ = some v1 ∧ w.cell? ⟨g, 2, none⟩ = some v2 ∧ w.cell? ⟨g, 3, none⟩ = some v3) ∧
    (w.frozen? ⟨g, 0, none⟩ = false ∧ w.frozen? ⟨g, 1, none⟩ = false ∧ w.frozen? ⟨g, 2, none⟩ = false ∧ w.frozen? ⟨g, 3, none⟩ = false) :=
  ⟨⟨h.cell 0, h.cell 1, h.cell 2, h.cell 3⟩, h.frozen 0, h.frozen 1, h.frozen 2, h.frozen 3⟩
/-- All cells of a box are stored. -/
def set4 (g : Nat) (v0 v1 v2 v3 : Value) (w : World) : World := (((w.setCell ⟨g, 0, none⟩ v0).setCell ⟨g, 1, none⟩ v1).setCell ⟨g, 2, none⟩ v2).setCell ⟨g, 3, none⟩ v3
def set5 (g : Nat) (v0 v1 v2 v3 v4 : Value) (w : World) : World := (set4 g v0 v1 v2 v3 w).setCell ⟨g, 4, none⟩ v4
theorem set5_fold (g : Nat) (v0 v1 v2 v3 v4 : Value) (w : World) : ((((w.setCell ⟨g, 0, none⟩ v0).setCell ⟨g, 1, none⟩ v1).setCell ⟨g, 2, none⟩ v2).setCell ⟨g, 3, none⟩ v3).setCell ⟨g, 4, none⟩ v4 = set5 g v0 v1 v2 v3 v4 w := rfl
theorem set4_fold (g : Nat) (v0 v1 v2 v3 : Value) (w : World) : (((w.setCell ⟨g, 0, none⟩ v0).setCell ⟨g, 1, none⟩ v1).setCell ⟨g, 2, none⟩ v2).setCell ⟨g, 3, none⟩ v3 = set4 g v0 v1 v2 v3 w := rfl
theorem set4_but (g : Nat) (v0 v1 v2 v3 : Value) (w : World) : But [g] w (set4 g v0 v1 v2 v3 w) :=
  (((But.setCell ⟨g, 0, none⟩ _ (by simp)).then (But.setCell ⟨g, 1, none⟩ _ (by simp))).then (But.setCell ⟨g, 2, none⟩ _ (by simp))).then (But.setCell ⟨g, 3, none⟩ _ (by simp))
theorem set5_but (g : Nat) (v0 v1 v2 v3 v4 : Value) (w : World) : But [g] w (set5 g v0 v1 v2 v3 v4 w) := (set4_but g v0 v1 v2 v3 w).then (But.setCell ⟨g, 4, none⟩ _ (by simp))
theorem Bx.set4 {T : TypeId} {g : Nat} {w : World} {u0 u1 u2 u3 : Value} (h : Bx T g #[u0, u1, u2, u3] w) (v0 v1 v2 v3 : Value) : Bx T g #[v0, v1, v2, v3] (set4 g v0 v1 v2 v3 w) := by
  have := (((h.set 0 v0).set 1 v1).set 2 v2).set 3 v3
  rw [show (((((#[u0, u1, u2, u3] : Array Value).setIfInBounds 0 v0).setIfInBounds 1 v1).setIfInBounds 2 v2).setIfInBounds 3 v3) = #[v0, v1, v2, v3] by simp] at this
  exact this
theorem Bx.set5 {T : TypeId} {g : Nat} {w : World} {u0 u1 u2 u3 u4 : Value} (h : Bx T g #[u0, u1, u2, u3, u4] w) (v0 v1 v2 v3 v4 : Value) : Bx T g #[v0, v1, v2, v3, v4] (set5 g v0 v1 v2 v3 v4 w) := by
  have := ((((h.set 0 v0).set 1 v1).set 2 v2).set 3 v3).set 4 v4
  rw [show ((((((#[u0, u1, u2, u3, u4] : Array Value).setIfInBounds 0 v0).setIfInBounds 1 v1).setIfInBounds 2 v2).setIfInBounds 3 v3).setIfInBounds 4 v4) = #[v0, v1, v2, v3, v4] by simp] at this
  exact this
/-- A box of one's own, stored into: what was there stays. -/
theorem Ev.box {w w1 w2 : World} {g : Nat} (h : Ev w w1) (hb : But [g] w1 w2) (hg : w.heap.size ≤ g) : Ev w w2 :=
  ((But.of_ev (K := [g]) h).then hb).ev fun k hk => by simp at hk; omega

theorem results_cell1 {P : Program} {fn : Func} {p : Tmp} {ty : TypeId} (h : fn.results = #[.cell p ty]) (tmps : Array Value) (w : World) (g : Nat) (cs : Array Value) (d : TypeDesc)
    (hp : tmps.getD p undef = .pointer (some ⟨g, 0, none⟩)) (hg : Bx ty g cs w)
    (hu : P.underlying ty = some d) (hd : (match d with | .struct _ | .array _ _ => true | _ => false) = true) (hi : (P.info? ty).map (·.size) = some cs.size) :
    (results fn tmps).run P w = .ok (.agg cs) w := by
  have hp' : tmps[p]?.getD undef = .pointer (some ⟨g, 0, none⟩) := by simpa using hp
  simp [results, h, hp', asAddr, run_loadVar_row w g ty ty cs (0, 0) d hg.blk hu hd hi]
theorem results_cell3 {P : Program} {fn : Func} {p u1 u2 u3 : Tmp} {ty : TypeId} (h : fn.results = #[.cell p ty, .tmp u1, .tmp u2, .tmp u3]) (tmps : Array Value) (w : World) (g : Nat) (cs : Array Value) (d : TypeDesc)
    (hp : tmps.getD p undef = .pointer (some ⟨g, 0, none⟩)) (hg : Bx ty g cs w)
    (hu : P.underlying ty = some d) (hd : (match d with | .struct _ | .array _ _ => true | _ => false) = true) (hi : (P.info? ty).map (·.size) = some cs.size) :
    (results fn tmps).run P w = .ok (.tuple #[.agg cs, tmps.getD u1 undef, tmps.getD u2 undef, tmps.getD u3 undef]) w := by
  have hp' : tmps[p]?.getD undef = .pointer (some ⟨g, 0, none⟩) := by simpa using hp
  simp [results, h, hp', asAddr, run_loadVar_row w g ty ty cs (0, 0) d hg.blk hu hd hi]
theorem results_cell2' {P : Program} {fn : Func} {p u1 u2 : Tmp} {ty : TypeId} (h : fn.results = #[.cell p ty, .tmp u1, .tmp u2]) (tmps : Array Value) (w : World) (g : Nat) (cs : Array Value) (d : TypeDesc)
    (hp : tmps.getD p undef = .pointer (some ⟨g, 0, none⟩)) (hg : Bx ty g cs w)
    (hu : P.underlying ty = some d) (hd : (match d with | .struct _ | .array _ _ => true | _ => false) = true) (hi : (P.info? ty).map (·.size) = some cs.size) :
    (results fn tmps).run P w = .ok (.tuple #[.agg cs, tmps.getD u1 undef, tmps.getD u2 undef]) w :=
  results_cell2 h tmps w g ty cs (0, 0) d hp hg.blk hu hd hi
theorem Try.sizeRTree : (Try.prog.info? 34).map (·.size) = some 5 := by kernel_rfl

theorem sxText_n : ∀ (N : Nat) (r b : By) (i : Nat), r.length ≤ N → (sxTextGo b r i).n = 0 := by
  intro N
  induction N with
  | zero =>
    intro r b i h
    have : r = [] := List.eq_nil_of_length_eq_zero (by omega)
    subst this
    rfl
  | succ N ih =>
    intro r b i h
    cases r with
    | nil => rfl
    | cons c q =>
      simp at h
      unfold sxTextGo
      split
      · exact ih q _ _ h
      · split
        · split
          · rfl
          · rename_i x q1
            simp at h
            split
            · rfl
            · split
              · rfl
              · rename_i y q2
                simp at h
                split
                · rfl
                · exact ih q2 _ _ (by omega)
        · split
          · split <;> rfl
          · rfl

theorem sxNum_kind (plus : Bool) (d : By) : ((sxNum plus d).why = 0 → (sxNum plus d).kind = 3 ∧ (sxNum plus d).s = []) ∧ ((sxNum plus d).why ≠ 0 → (sxNum plus d).why = 12 ∧ (sxNum plus d).fault = 0) := by
  unfold sxNum
  split
  · exact ⟨(fun h => by cases h), (fun _ => ⟨rfl, rfl⟩)⟩
  · split
    · exact ⟨(fun h => by cases h), (fun _ => ⟨rfl, rfl⟩)⟩
    · split
      · exact ⟨fun _ => ⟨rfl, rfl⟩, fun h => absurd rfl h⟩
      · exact ⟨fun _ => ⟨rfl, rfl⟩, fun h => absurd rfl h⟩
theorem sxNumber_both (l : By) : ((sxNumber l).why = 0 → (sxNumber l).kind = 3 ∧ (sxNumber l).s = []) ∧ ((sxNumber l).why ≠ 0 → (sxNumber l).why = 12 ∧ (sxNumber l).fault = 0) := by
  unfold sxNumber
  split
  · exact sxNum_kind _ _
  · split
    · exact sxNum_kind _ _
    · exact sxNum_kind _ _
theorem sxNumber_kind (l : By) : (sxNumber l).why = 0 → (sxNumber l).kind = 3 ∧ (sxNumber l).s = [] := (sxNumber_both l).1
theorem sxNumber_bad (l : By) : (sxNumber l).why ≠ 0 → (sxNumber l).why = 12 ∧ (sxNumber l).fault = 0 := (sxNumber_both l).2
/-- What leaf gives. -/
def LeafOut (X : Tk) (i : Nat) (w : World) (e : Ending) (w' : World) : Prop :=
  ∃ (k n p en wh : Int) (sb : ByteArray), e = .returned (.tuple #[.agg #[.int .i64 k, .string sb, .int .i64 n, .slice none 0 0, .int .i64 p], .int .i64 en, .int .i64 X.why, .int .i64 wh]) ∧
    (X.why = 0 → k = X.kind ∧ sb = ⟨X.s.toArray⟩ ∧ n = X.n ∧ p = (i : Int) ∧ en = ((i + X.size : Nat) : Int)) ∧ (X.why ≠ 0 → wh = ((i + X.fault : Nat) : Int)) ∧ Ev w w'

set_option maxRecDepth 100000 in
set_option maxHeartbeats 4000000 in
theorem rf_leaf (s : ByteArray) (w : World) (hs : s.size ≤ 100000) (i : Nat) (hi : i < s.size) (c : UInt8) (hc0 : s.data.toList[i]? = some c) (hk : c.toNat = 34 ∨ c.toNat = 45 ∨ sxLetter c = true ∨ sxDigit c = true) :
    Calls Try.prog 23 #[.string s, .int .i64 (i : Int)] w (LeafOut (sxScan (s.data.toList.drop i)) i w) := by
  have hll : s.data.toList.length = s.size := by rw [Array.length_toList]; rfl
  have HL := Lib.hid hll
  have hidx : ∀ hh, s[i]'hh = c := fun hh => by
    have := sx_at s i hh
    rw [this] at hc0
    exact Option.some.inj hc0
  have g0 : (0 : Int) ≤ (i : Int) := by omega
  have g1 : (i : Int) < (s.size : Int) := by omega
  have hdr := sx_dropped hc0
  obtain ⟨X, hX⟩ : ∃ X, X = sxScan (s.data.toList.drop i) := ⟨_, rfl⟩
  rw [← hX]
  have hB := Bx.new 34 #[.int .i64 0, .string ⟨#[]⟩, .int .i64 0, .slice none 0 0, .int .i64 0] w
  have hE := Ev.alloc w (.cells #[.int .i64 0, .string ⟨#[]⟩, .int .i64 0, .slice none 0 0, .int .i64 0] 34)
  obtain ⟨w0, hw0⟩ : ∃ w0, w.alloc (.cells #[.int .i64 0, .string ⟨#[]⟩, .int .i64 0, .slice none 0 0, .int .i64 0] 34) = w0 := ⟨_, rfl⟩
  rw [hw0] at hB hE
  have HB := Lib.hid hB
  have HE := Lib.hid hE
  clear hB hE
  by_cases h34 : c.toNat = 34
  · have e34 : (c.toNat : Int) = 34 := by omega
    have HT := Lib.hid (fun w1 : World => rf_text s w1 hs i hi)
    rw [hdr] at hX
    simp [sxScan, h34] at hX
    have hp := sxText_props _ (s.data.toList.drop (i + 1)) [] 1 (Nat.le_refl _)
    have hn := sxText_n _ (s.data.toList.drop (i + 1)) [] 1 (Nat.le_refl _)
    rw [← hX] at hp hn HT
    have HP := Lib.hid hp
    have HN := Lib.hid hn
    clear hX hdr hc0 hp hn
    go_enter Try.func23, Try.ntmps23
    go_wp2_with (first | ((with_reducible refine (HT.out _).mono ?_); rintro e w1 ⟨sb, en, wh, rfl, HO, hE1⟩; have B1 := HB.out.ev hE1; have E1 := HE.out.trans hE1; obtain ⟨⟨c0, c1, c2, c3, c4⟩, f0, f1, f2, f3, f4⟩ := B1.five))
    (try simp only [Exit.inBlock, Exit.then])
    rw [set5_fold]
    refine bodyPost_ret (results_cell3 rfl _ _ _ _ _ rfl (B1.set5 _ _ _ _ _) Try.underlying34 rfl Try.sizeRTree) rfl ?_
    exact ⟨_, _, _, _, _, _, rfl, fun h => ⟨((HP.out.2 h).1).symm, (HO.ok h).1, HN.out.symm, rfl, (HO.ok h).2⟩, HO.bad, E1.box (set5_but _ _ _ _ _ _ _) (Nat.le_refl _)⟩
  · have e34 : ¬ ((c.toNat : Int) = 34) := by omega
    have e34' : ((c.toNat : Int) == 34) = false := beq_eq_false_iff_ne.2 e34
    have HLT := Lib.hid rf_letter
    have HC := rf_letter c
    cases hlc : sxLetter c with
    | true =>
      rw [hlc] at HC
      have HC := Lib.hid HC
      have hlc2 := hlc
      unfold sxLetter at hlc2
      simp at hlc2
      have hnd : sxDigit c = false := by unfold sxDigit; simp; omega
      rw [hdr] at hX
      simp only [sxScan, hlc, hnd, show (c.toNat == 40) = false by simp; omega, show (c.toNat == 41) = false by simp; omega, show (c.toNat == 34) = false by simp; omega, show (c.toNat == 45) = false by simp; omega] at hX
      simp at hX
      rw [← hdr] at hX
      have hrl := sxRun_le sxLetter (s.data.toList.drop i)
      rw [List.length_drop, hll] at hrl
      obtain ⟨q, hq⟩ : ∃ q, q = sxRun sxLetter (s.data.toList.drop i) := ⟨_, rfl⟩
      rw [← hq] at hX hrl
      have HX := Lib.hid hX
      have HQ := Lib.hid hq
      clear hX hdr hc0 hq hll
      go_enter Try.func23, Try.ntmps23
      go_wp2_with (first | ((with_reducible refine (HC.out _).mono ?_); rintro e w1 ⟨rfl, rfl⟩))
      go_loop [12] (fun iv => ∃ j : Nat, iv = .int .i64 (j : Int) ∧ i ≤ j ∧ j ≤ s.size ∧ Hid (sxRun sxLetter (s.data.toList.drop j) + (j - i) = q)) (fun iv => s.size - (intOf iv).toNat)
      case atStart => exact ⟨i, rfl, Nat.le_refl _, by omega, Lib.hid (by rw [HQ.out]; omega)⟩
      case round =>
        obtain ⟨j, rfl, hj0, hj1, HJ⟩ := hrel
        obtain ⟨⟨c0, c1, c2, c3, c4⟩, f0, f1, f2, f3, f4⟩ := HB.out.five
        have hi0 : (0 : Int) ≤ (i : Int) := by omega
        have hij : (i : Int) ≤ (j : Int) := by omega
        have hjs : (j : Int) ≤ (s.size : Int) := by omega
        have HXT : Hid (j - i = q → (s.extract i j) = ⟨((s.data.toList.drop i).take q).toArray⟩) := Lib.hid fun h => by
          apply ByteArray.ext
          apply Array.toList_inj.1
          rw [Lib.extract_eq, h]
        have HXE : Hid (j - i = q → (j : Int) = ((i + q : Nat) : Int)) := Lib.hid (fun h => by omega)
        by_cases hlt : j < s.size
        · have hat := sx_at s j hlt
          obtain ⟨x, ex⟩ : ∃ x, s[j] = x := ⟨_, rfl⟩
          have hx1 : ∀ hh, s[j]'hh = x := fun _ => ex
          rw [ex] at hat
          have hst := sxRun_step sxLetter s.data.toList j x hat
          have q0 : (0 : Int) ≤ (j : Int) := by omega
          have q1 : (j : Int) < (s.size : Int) := by omega
          have HXL := HLT.out x
          cases hxl : sxLetter x with
          | true =>
            rw [hxl] at HXL hst
            simp only [if_true] at hst
            have HXL := Lib.hid HXL
            have HJ2 : Hid (sxRun sxLetter (s.data.toList.drop (j + 1)) + (j + 1 - i) = q) := Lib.hid (by have := HJ.out; omega)
            clear hst hat ex
            go_wp2_with (first | ((with_reducible refine (HXL.out _).mono ?_); rintro e w1 ⟨rfl, rfl⟩))
            go_round
            case rel => exact ⟨j + 1, by go_num, by omega, by omega, HJ2⟩
            case measure => simp [intOf]; omega
          | false =>
            rw [hxl] at HXL hst
            simp only [Bool.false_eq_true, if_false] at hst
            have HXL := Lib.hid HXL
            have hjq : j - i = q := by have := HJ.out; omega
            have HJQ := Lib.hid hjq
            clear hst hat ex hjq
            go_wp2_with (first | ((with_reducible refine (HXL.out _).mono ?_); rintro e w1 ⟨rfl, rfl⟩))
            (try simp only [Exit.inBlock, Exit.then])
            rw [set5_fold]
            refine bodyPost_ret (results_cell3 rfl _ _ _ _ _ rfl (HB.out.set5 _ _ _ _ _) Try.underlying34 rfl Try.sizeRTree) rfl ?_
            exact ⟨_, _, _, _, _, _, (by rw [HX.out]; rfl), (fun _ => by rw [HX.out]; exact ⟨rfl, HXT.out HJQ.out, rfl, rfl, HXE.out HJQ.out⟩), (fun h => absurd (by rw [HX.out]) h), HE.out.box (set5_but _ _ _ _ _ _ _) (Nat.le_refl _)⟩
        · have q1 : ¬ ((j : Int) < (s.size : Int)) := by omega
          have hjq : j - i = q := by
            have := HJ.out
            rw [List.drop_of_length_le (by rw [HL.out]; omega)] at this
            simp [sxRun] at this
            exact this
          have HJQ := Lib.hid hjq
          clear hjq
          go_wp2
          (try simp only [Exit.inBlock, Exit.then])
          rw [set5_fold]
          refine bodyPost_ret (results_cell3 rfl _ _ _ _ _ rfl (HB.out.set5 _ _ _ _ _) Try.underlying34 rfl Try.sizeRTree) rfl ?_
          exact ⟨_, _, _, _, _, _, (by rw [HX.out]; rfl), (fun _ => by rw [HX.out]; exact ⟨rfl, HXT.out HJQ.out, rfl, rfl, HXE.out HJQ.out⟩), (fun h => absurd (by rw [HX.out]) h), HE.out.box (set5_but _ _ _ _ _ _ _) (Nat.le_refl _)⟩
    | false =>
      rw [hlc] at HC
      have HC := Lib.hid HC
      have hk2 : c.toNat = 45 ∨ sxDigit c = true := by
        rcases hk with h | h | h | h
        · exact absurd h h34
        · exact .inl h
        · rw [hlc] at h; cases h
        · exact .inr h
      have hX2 : X = sxNumber (s.data.toList.drop i) := by
        rw [hX, hdr]
        have h4 : (c.toNat == 40) = false ∧ (c.toNat == 41) = false := by
          rcases hk2 with h | h
          · simp [h]
          · unfold sxDigit at h; simp at h; simp; omega
        have h5 : (c.toNat == 45 || sxDigit c) = true := by simp; exact hk2
        simp only [sxScan, h4.1, h4.2, h5, show (c.toNat == 34) = false by simp; omega]
        simp
      have HN := fun w1 => rf_number s w1 hs i c hi hc0
      rw [← hX2] at HN
      have HN := Lib.hid HN
      have HX3 : Hid (X.why = 0 → X.kind = 3 ∧ X.s = []) := Lib.hid (by rw [hX2]; exact sxNumber_kind _)
      have HX4 : Hid (X.why ≠ 0 → X.why = 12 ∧ X.fault = 0) := Lib.hid (by rw [hX2]; exact sxNumber_bad _)
      obtain ⟨wy, hwy⟩ : ∃ wy, wy = X.why := ⟨_, rfl⟩
      rw [← hwy] at HN
      clear hX hX2 hdr hc0
      by_cases hw : wy = 0
      · have hwb : (wy == 0) = true := by rw [hw]; rfl
        rw [hwb] at HN
        subst hw
        have HW := Lib.hid hwy
        clear hwy hwb
        go_enter Try.func23, Try.ntmps23
        go_wp2_with (first
          | ((with_reducible refine (HC.out _).mono ?_); rintro e w1 ⟨rfl, rfl⟩)
          | ((with_reducible refine (HN.out _).mono ?_); rintro e w1 ⟨j, rfl, hj, hE1⟩; have HJ := Lib.hid (hj (by simp)); clear hj; have B1 := HB.out.ev hE1; have E1 := HE.out.trans hE1; obtain ⟨⟨c0, c1, c2, c3, c4⟩, f0, f1, f2, f3, f4⟩ := B1.five))
        (try simp only [Exit.inBlock, Exit.then])
        rw [set5_fold]
        refine bodyPost_ret (results_cell3 rfl _ _ _ _ _ rfl (B1.set5 _ _ _ _ _) Try.underlying34 rfl Try.sizeRTree) rfl ?_
        exact ⟨_, _, _, _, _, _, by rw [← HW.out]; rfl, (fun h => ⟨((HX3.out h).1).symm, (by rw [(HX3.out h).2]), rfl, rfl, (by rw [HJ.out])⟩), (fun h => absurd HW.out.symm h), E1.box (set5_but _ _ _ _ _ _ _) (Nat.le_refl _)⟩
      · have hwb : (wy == 0) = false := beq_eq_false_iff_ne.2 hw
        rw [hwb] at HN
        have HW := Lib.hid hwy
        have HW2 := Lib.hid hw
        clear hwy hwb hw
        go_enter Try.func23, Try.ntmps23
        go_wp2_with (first
          | ((with_reducible refine (HC.out _).mono ?_); rintro e w1 ⟨rfl, rfl⟩)
          | ((with_reducible refine (HN.out _).mono ?_); rintro e w1 ⟨j, rfl, hj, hE1⟩; clear hj; have B1 := HB.out.ev hE1; have E1 := HE.out.trans hE1; obtain ⟨⟨c0, c1, c2, c3, c4⟩, f0, f1, f2, f3, f4⟩ := B1.five))
        (try simp only [Exit.inBlock, Exit.then])
        rw [set5_fold]
        refine bodyPost_ret (results_cell3 rfl _ _ _ _ _ rfl (B1.set5 _ _ _ _ _) Try.underlying34 rfl Try.sizeRTree) rfl ?_
        exact ⟨_, _, _, _, _, _, by rw [(HX4.out (by rw [← HW.out]; exact HW2.out)).1]; rfl, (fun h => absurd (HW.out.trans h) HW2.out), (fun h => by rw [(HX4.out h).2]; rfl), E1.box (set5_but _ _ _ _ _ _ _) (Nat.le_refl _)⟩
end Go.Proofs.Ytgiofdmedhhobaa

namespace Go.Proofs.Ytgiofdmedhhobaa
open Go.RowKit
set_option linter.unusedVariables false

/-- The operations. -/
def bAdd : By := [97, 100, 100]
def bSub : By := [115, 117, 98]
def bMul : By := [109, 117, 108]
def bEq : By := [101, 113]
def bLt : By := [108, 116]
def bAnd : By := [97, 110, 100]
def bOr : By := [111, 114]
def bCat : By := [99, 97, 116]
def bNeg : By := [110, 101, 103]
def bNot : By := [110, 111, 116]
def bLen : By := [108, 101, 110]
def bIf : By := [105, 102]
def xTwo (s : By) : Bool := s == bAdd || s == bSub || s == bMul || s == bEq || s == bLt || s == bAnd || s == bOr || s == bCat
def xOne (s : By) : Bool := s == bNeg || s == bNot || s == bLen
def xTakes (s : By) : Nat := if xTwo s then 2 else if xOne s then 1 else if s == bIf then 3 else 0
def bstr (s : By) : ByteArray := ⟨s.toArray⟩
abbrev xName (s : By) : Bool := nameV (bstr s)
/-- P8.1: the expression of a tree, or why there is none, and where. An expression is a tree without places. -/
abbrev XRes := T × Int × Nat
def xBad (why : Int) (pos : Nat) : XRes := (sxZero, why, pos)
/-- The operands' results, one behind the other. -/
def xReads (s : By) (done : List T) : List XRes → XRes
  | [] => (.mk 4 s 0 done 0, 0, 0)
  | r :: l => if r.2.1 == 0 then xReads s (done ++ [r.1]) l else (sxZero, r.2.1, r.2.2)
mutual
def xRead : T → XRes
  | .mk k s n l p =>
    if k == 2 then (if xName s then (.mk 1 s 0 [] 0, 0, 0) else xBad 20 p)
    else if k == 3 then (.mk 2 [] n [] 0, 0, 0)
    else if k == 4 then (.mk 3 s 0 [] 0, 0, 0)
    else if k == 1 then
      (match l with
        | [] => xBad 12 p
        | h :: q => if h.kind == 2 && !(xTakes h.s == 0) then
            (if q.length == xTakes h.s then xReads h.s [] (xReadAll q) else xBad 23 p) else xBad 12 p)
    else xBad 12 p
def xReadAll : List T → List XRes
  | [] => []
  | t :: l => xRead t :: xReadAll l
end
/-- Is it none of what Read makes, whatever its Kids are? -/
def xForeign (e : T) : Bool :=
  if e.kind == 1 then !xName e.s || !(e.n == 0) || !e.kids.isEmpty
  else if e.kind == 2 then !e.s.isEmpty || !e.kids.isEmpty
  else if e.kind == 3 then !(e.n == 0) || !e.kids.isEmpty
  else if e.kind == 4 then xTakes e.s == 0 || !(e.n == 0) || !(e.kids.length == xTakes e.s)
  else true
mutual
def xRight : T → Bool
  | .mk k s n l p => !xForeign (.mk k s n l p) && xRights l
def xRights : List T → Bool
  | [] => true
  | t :: l => xRight t && xRights l
end
mutual
def T.size : T → Nat
  | .mk _ _ _ l _ => T.sizes l + 1
def T.sizes : List T → Nat
  | [] => 0
  | t :: l => t.size + T.sizes l
end
/-- P8.2. -/
def xAll (ks : List Int) (k : Int) : Bool := ks.all (· == k)
def xApplied (s : By) (ks : List Int) : Int × Int :=
  if s == bAdd || s == bSub || s == bMul || s == bNeg || s == bAnd || s == bOr || s == bNot then (if xAll ks 1 then (1, 0) else (0, 22))
  else if s == bEq || s == bLt then (if ks.getD 0 0 == ks.getD 1 0 then (1, 0) else (0, 22))
  else if s == bCat then (if xAll ks 2 then (2, 0) else (0, 22))
  else if s == bLen then (if xAll ks 2 then (1, 0) else (0, 22))
  else if s == bIf then (if ks.getD 0 0 == 1 && ks.getD 1 0 == ks.getD 2 0 then (ks.getD 1 0, 0) else (0, 22))
  else (0, 22)
/-- The results, one behind the other: the first error, or what they make. -/
def xKindsGo (s : By) (done : List Int) : List (Int × Int) → Int × Int
  | [] => xApplied s done
  | r :: l => if r.2 == 0 then xKindsGo s (done ++ [r.1]) l else (0, r.2)
mutual
def xKind (cols : List C) : T → Int × Int
  | .mk k s n l p =>
    if k == 1 then (match findC cols (bstr s) with | none => (0, 20) | some i => ((cols.getD i (⟨#[]⟩, 0)).2, 0))
    else if k == 2 then (1, 0)
    else if k == 3 then (2, 0)
    else xKindsGo s [] (xKinds cols l)
def xKinds (cols : List C) : List T → List (Int × Int)
  | [] => []
  | t :: l => xKind cols t :: xKinds cols l
end
def xType (cols : List C) (e : T) : Int × Int := if xRight e then xKind cols e else (0, 22)
/-- P8.3. -/
abbrev VRes := V × Int
def v0 : V := (0, 0, ⟨#[]⟩)
def vNum (n : Int) : V := (1, n, ⟨#[]⟩)
def vStr (s : ByteArray) : V := (2, 0, s)
def xTruth (b : Bool) : VRes := (vNum (if b then 1 else 0), 0)
def xFit (n : Int) : VRes := if -9223372036854775808 ≤ n ∧ n ≤ 9223372036854775807 then (vNum n, 0) else (v0, 26)
def xPerform (s : By) (a b : V) : VRes :=
  if s == bAdd then xFit (a.2.1 + b.2.1)
  else if s == bSub then xFit (a.2.1 - b.2.1)
  else if s == bMul then xFit (a.2.1 * b.2.1)
  else if s == bNeg then xFit (-a.2.1)
  else if s == bEq then xTruth (!lessVV a b && !lessVV b a)
  else if s == bLt then xTruth (lessVV a b)
  else if s == bAnd then xTruth (!(a.2.1 == 0) && !(b.2.1 == 0))
  else if s == bOr then xTruth (!(a.2.1 == 0) || !(b.2.1 == 0))
  else if s == bNot then xTruth (a.2.1 == 0)
  else if s == bCat then (if a.2.2.size + b.2.2.size ≤ 40 then (vStr (a.2.2 ++ b.2.2), 0) else (v0, 3))
  else if s == bLen then (vNum (a.2.2.size : Int), 0)
  else (v0, 22)
def xChoose : List VRes → VRes
  | a :: b :: c :: _ => if a.2 == 0 then (if a.1.2.1 == 0 then c else b) else (v0, a.2)
  | _ => (v0, 22)
def xEvalsGo (s : By) (done : List V) : List VRes → VRes
  | [] => xPerform s (done.getD 0 v0) (done.getD (done.length - 1) v0)
  | r :: l => if r.2 == 0 then xEvalsGo s (done ++ [r.1]) l else (v0, r.2)
mutual
def xEval (cols : List C) (r : List V) : T → VRes
  | .mk k s n l p =>
    if k == 1 then (match findC cols (bstr s) with | none => (v0, 0) | some i => (r.getD i v0, 0))
    else if k == 2 then (vNum n, 0)
    else if k == 3 then (vStr (bstr s), 0)
    else if s == bIf then xChoose (xEvals cols r l)
    else xEvalsGo s [] (xEvals cols r l)
def xEvals (cols : List C) (r : List V) : List T → List VRes
  | [] => []
  | t :: l => xEval cols r t :: xEvals cols r l
end
def xValue (cols : List C) (r : List V) (e : T) : VRes := if (xType cols e).2 == 0 && fitsL cols r then xEval cols r e else (v0, 22)

/-- An expression's cells; it in memory, all of it in blocks that are not of K. -/
def ec (m : M) : List Value := [.int .i64 m.kind, .string ⟨m.s.toArray⟩, .int .i64 m.n, m.kv]
def ev_ (m : M) : Value := .agg #[.int .i64 m.kind, .string ⟨m.s.toArray⟩, .int .i64 m.n, m.kv]
abbrev Es := Sl 4 ec
theorem encE : Enc 4 ec := ⟨by omega, fun _ => rfl, fun x u hu => by
  simp [ec, M.kv] at hu
  rcases hu with rfl | rfl | rfl | rfl <;> rfl⟩
inductive Lx (b0 : Nat) (K : List Nat) (w : World) : M → Prop
  | mk {kind : Int} {s : By} {n : Int} {A : Option Addr} {cap : Nat} {kids : List M} {pos : Nat} : Es w A kids.length cap kids → (∀ ad, A = some ad → b0 ≤ ad.block ∧ ad.block < w.heap.size ∧ ad.block ∉ K) → (∀ k ∈ kids, Lx b0 K w k) →
      Lx b0 K w (.mk kind s n A cap kids pos)
theorem Lx.es {b0 : Nat} {K : List Nat} {w : World} {m : M} (h : Lx b0 K w m) : Es w m.A m.kids.length m.cap m.kids := by
  cases h with
  | mk h1 h2 h3 => exact h1
theorem Lx.kid {b0 : Nat} {K : List Nat} {w : World} {m : M} (h : Lx b0 K w m) : ∀ k ∈ m.kids, Lx b0 K w k := by
  cases h with
  | mk h1 h2 h3 => exact h3
theorem Lx.move {b0 : Nat} {K K' : List Nat} {w w' : World} {m : M} (h : Lx b0 K w m) (hb : But K w w') (hs : ∀ x ∈ K', x ∈ K ∨ x < b0 ∨ w.heap.size ≤ x) : Lx b0 K' w' m := by
  induction h with
  | mk h1 h2 h3 ih =>
    refine .mk (h1.but hb fun ad e => (h2 ad e).2.2) (fun ad e => ⟨(h2 ad e).1, Nat.lt_of_lt_of_le (h2 ad e).2.1 hb.size, fun hm => ?_⟩) ih
    rcases hs _ hm with h4 | h4 | h4
    · exact (h2 ad e).2.2 h4
    · have := (h2 ad e).1; omega
    · have := (h2 ad e).2.1; omega
theorem Lx.ev {b0 : Nat} {K : List Nat} {w w' : World} {m : M} (h : Lx b0 K w m) (hE : Ev w w') : Lx b0 K w' m := h.move (But.of_ev hE) fun _ hx => .inl hx
theorem Lx.low {b0 b1 : Nat} {K : List Nat} {w : World} {m : M} (h : Lx b1 K w m) (hb : b0 ≤ b1) : Lx b0 K w m := by
  induction h with
  | mk h1 h2 h3 ih => exact .mk h1 (fun ad e => ⟨Nat.le_trans hb (h2 ad e).1, (h2 ad e).2⟩) ih
theorem Lx.less {b0 : Nat} {K K' : List Nat} {w : World} {m : M} (h : Lx b0 K w m) (hs : ∀ x ∈ K', x ∈ K ∨ x < b0 ∨ w.heap.size ≤ x) : Lx b0 K' w m := h.move (But.refl _ _) hs
theorem Lx.leaf {b0 : Nat} {K : List Nat} {w : World} {k : Int} {s : By} {n : Int} {p : Nat} : Lx b0 K w (.mk k s n none 0 [] p) := .mk (Sl.nil_ w) (fun _ h => by cases h) (fun _ h => by cases h)
/-- Expression i of a slice. -/
theorem Es.cell {w : World} {A : Option Addr} {n cap : Nat} {l : List M} (h : Es w A n cap l) {i : Nat} {x : M} (hx : l[i]? = some x) : ∃ b off, A = some ⟨b, off, none⟩ ∧ b < w.heap.size ∧
    w.cell? ⟨b, off + i * 4, none⟩ = some (.int .i64 x.kind) ∧ w.cell? ⟨b, off + i * 4 + 1, none⟩ = some (.string ⟨x.s.toArray⟩) ∧ w.cell? ⟨b, off + i * 4 + 2, none⟩ = some (.int .i64 x.n) ∧ w.cell? ⟨b, off + i * 4 + 3, none⟩ = some x.kv := by
  have hi := (List.getElem?_eq_some_iff.1 hx).1
  have hl := h.len
  obtain ⟨b, off, e, hlt, hc⟩ := h.rd (by omega)
  exact ⟨b, off, e, hlt, hc i x hx 0 _ rfl, hc i x hx 1 _ rfl, hc i x hx 2 _ rfl, hc i x hx 3 _ rfl⟩
-- How deep, how many parts.
mutual
def M.dep : M → Nat
  | .mk _ _ _ _ _ l _ => M.deps l + 1
def M.deps : List M → Nat
  | [] => 0
  | m :: l => max m.dep (M.deps l)
end
theorem M.dep_kid : ∀ (l : List M) (k : M), k ∈ l → k.dep ≤ M.deps l
  | [], k, h => by cases h
  | m :: l, k, h => by
    rcases List.mem_cons.1 h with rfl | h
    · simp [M.deps]; omega
    · have := M.dep_kid l k h
      simp [M.deps]; omega
theorem M.dep_eq (m : M) : m.dep = M.deps m.kids + 1 := by cases m; rfl
theorem M.kid_dep {m k : M} (h : k ∈ m.kids) : k.dep < m.dep := by
  have := M.dep_kid m.kids k h
  rw [M.dep_eq m]
  omega
theorem M.t_s (m : M) : m.t.s = m.s := by rw [M.t_eq]; rfl
theorem M.t_n (m : M) : m.t.n = m.n := by rw [M.t_eq]; rfl
theorem xReadAll_map : ∀ l : List T, xReadAll l = l.map xRead
  | [] => rfl
  | t :: l => by simp [xReadAll, xReadAll_map l]
theorem xRights_all : ∀ l : List T, xRights l = l.all xRight
  | [] => rfl
  | t :: l => by simp [xRights, xRights_all l]
theorem xKinds_map (cols : List C) : ∀ l : List T, xKinds cols l = l.map (xKind cols)
  | [] => rfl
  | t :: l => by simp [xKinds, xKinds_map cols l]
theorem xEvals_map (cols : List C) (r : List V) : ∀ l : List T, xEvals cols r l = l.map (xEval cols r)
  | [] => rfl
  | t :: l => by simp [xEvals, xEvals_map cols r l]
theorem T.sizes_sum : ∀ l : List T, T.sizes l = (l.map T.size).sum
  | [] => rfl
  | t :: l => by simp [T.sizes, T.sizes_sum l]
end Go.Proofs.Ytgiofdmedhhobaa

namespace Go.Proofs.Ytgiofdmedhhobaa
open Go.RowKit
set_option linter.unusedVariables false

def rfStarter (c : UInt8) : Bool := c.toNat == 40 || c.toNat == 34 || c.toNat == 45 || sxLetter c || sxDigit c
def rfPop (os : List T) : List T := match os.getLast? with | none => os | some e => sxPut os.dropLast e
def rfWhole (os : List T) (pos : Nat) : Res := if 1 < os.length then (sxZero, 10, pos) else sxWhole os pos
/-- The document's own Read. -/
def rfGo : Nat → List T → By → Nat → Res
  | 0, _, _, _ => (sxZero, 12, 0)
  | _ + 1, os, [], pos => rfWhole os pos
  | f + 1, os, c :: q, pos =>
    if sxBlank c then rfGo f os q (pos + 1)
    else if c.toNat == 41 then (if os.length == 1 then (sxZero, 12, pos) else rfGo f (rfPop os) q (pos + 1))
    else if !rfStarter c then (sxZero, 12, pos)
    else if os.length == 1 && sxDone os then (sxZero, 11, pos)
    else if c.toNat == 40 then (if 12 < os.length then (sxZero, 14, pos) else rfGo f (os ++ [.mk 1 [] 0 [] pos]) q (pos + 1))
    else if (sxScan (c :: q)).why == 0 then rfGo f (sxPut os ((sxScan (c :: q)).tree pos)) ((c :: q).drop (sxScan (c :: q)).size) (pos + (sxScan (c :: q)).size)
    else (sxZero, (sxScan (c :: q)).why, pos + (sxScan (c :: q)).fault)
def rfRead (l : By) : Res := if 600 < l.length then (sxZero, 3, 0) else rfGo (l.length + 1) [sxZero] l 0

abbrev RT : TypeId := 34
theorem encM : Enc 5 mc := ⟨by omega, fun _ => rfl, fun x u hu => mlist_ones [x] u (by rw [mlist_one_]; exact hu)⟩
theorem Try.infoRTree : (Try.prog.info? 34).map (fun i => (i.zero, i.size, i.bytes)) = some (some (.agg #[.int .i64 0, .string ⟨#[]⟩, .int .i64 0, .slice none 0 0, .int .i64 0]), 5, 64) := by kernel_rfl

theorem Ow.low {α : Type} {k : Nat} {enc : α → List Value} {et : TypeId} {b0 b : Nat} {w : World} {v : Value} {Z : List α} (h : Ow et k enc b w v Z) (hb : b0 ≤ b) : Ow et k enc b0 w v Z :=
  ⟨h.1, h.2.imp id fun ⟨g, cap, cur, h1, h2, r⟩ => ⟨g, cap, cur, h1, Nat.le_trans hb h2, r⟩⟩
/-- In the midst of reading: the list of what is open lies in block g. -/
structure RfSt (w0 : World) (g q cap : Nat) (os : List M) (i : Nat) (w : World) : Prop where
  own : Ow 34 5 mc (w0.heap.size + 1) w (.slice (some ⟨g, 0, none⟩) (q + 1) cap) os
  len : os.length = q + 1
  lies : ∀ e ∈ os, Lies (w0.heap.size + 1) [g] w e
  ev : Ev w0 w
  box : Bx 34 w0.heap.size #[.int .i64 0, .string ⟨#[]⟩, .int .i64 0, .slice none 0 0, .int .i64 0] w
  few : os.length ≤ i + 1
  kids : ∀ e ∈ os, e.kids.length ≤ i
theorem RfSt.wider {w0 w : World} {g q cap i i' : Nat} {os : List M} (h : RfSt w0 g q cap os i w) (hi : i ≤ i') : RfSt w0 g q cap os i' w :=
  ⟨h.own, h.len, h.lies, h.ev, h.box, by have := h.few; omega, fun e he => by have := h.kids e he; omega⟩
theorem RfSt.evs {w0 w w' : World} {g q cap i : Nat} {os : List M} (h : RfSt w0 g q cap os i w) (hE : Ev w w') : RfSt w0 g q cap os i w' :=
  ⟨h.own.ev hE, h.len, fun e he => (h.lies e he).ev hE, h.ev.trans hE, h.box.ev hE, h.few, h.kids⟩
theorem RfSt.at {w0 w : World} {g q cap i : Nat} {os : List M} (h : RfSt w0 g q cap os i w) : w0.heap.size + 1 ≤ g ∧ g < w.heap.size ∧ q + 1 ≤ cap ∧ cap ≤ 9223372036854775807 ∧ (∀ i, w.frozen? ⟨g, i, none⟩ = false) ∧
    ∀ i x, os[i]? = some x → w.cell? ⟨g, i * 5, none⟩ = some (.int .i64 x.kind) ∧ w.cell? ⟨g, i * 5 + 1, none⟩ = some (.string ⟨x.s.toArray⟩) ∧ w.cell? ⟨g, i * 5 + 2, none⟩ = some (.int .i64 x.n) ∧ w.cell? ⟨g, i * 5 + 3, none⟩ = some x.kv ∧ w.cell? ⟨g, i * 5 + 4, none⟩ = some (.int .i64 (x.pos : Int)) := by
  obtain ⟨A, cap', hv, hS, hA⟩ := h.own.form encM
  injection hv with h1 h2 h3
  subst h1; subst h3
  obtain ⟨_, h4, h5, _, h6⟩ := hA _ rfl
  have hle := hS.le
  rw [h.len] at hle
  refine ⟨h4, h5, hle, hS.max, h6, fun i x hx => ?_⟩
  obtain ⟨b, off, e, _, hc⟩ := hS.rd (by rw [h.len]; omega)
  injection e with e
  injection e with e1 e2 _
  subst e1; subst e2
  have key : ∀ j u, (mc x)[j]? = some u → w.cell? ⟨g, i * 5 + j, none⟩ = some u := fun j u hu => by
    have := hc i x hx j u hu
    rwa [Nat.zero_add] at this
  exact ⟨key 0 _ rfl, key 1 _ rfl, key 2 _ rfl, key 3 _ rfl, key 4 _ rfl⟩
/-- A tree is put behind the Kids of the one at place r: its Kids in new memory, the place written. -/
theorem RfSt.graft {w0 w W : World} {g q cap i i' : Nat} {os1 os2 : List M} {e m : M} (h : RfSt w0 g q cap (os1 ++ e :: os2) i w) (hE : Ev w W) {v : Value} (hv : Ow 34 5 mc w.heap.size W v (e.kids ++ [m])) (hm : Lies (w0.heap.size + 1) [g] W m) (hi : i < i') :
    ∃ e' : M, e'.t = e.t.add m.t ∧ RfSt w0 g q cap (os1 ++ e' :: os2) i' (W.setCell ⟨g, os1.length * 5 + 3, none⟩ v) := by
  obtain ⟨A, cap', rfl, hS, hA⟩ := hv.form encM
  obtain ⟨e', he'⟩ : ∃ e', e' = M.mk e.kind e.s e.n A cap' (e.kids ++ [m]) e.pos := ⟨_, rfl⟩
  have hg := h.at
  have hkl : e'.kids = e.kids ++ [m] := by rw [he']; rfl
  have hB : But [g] W (W.setCell ⟨g, os1.length * 5 + 3, none⟩ (.slice A (e.kids ++ [m]).length cap')) := But.setCell _ _ (by simp)
  refine ⟨e', ?_, ?_, ?_, ?_, ?_, ?_, ?_, ?_⟩
  · rw [he', M.t_eq, T.add, M.t_eq e]
    simp [M.kind, M.s, M.n, M.kids, M.pos, T.kind, T.s, T.n, T.kids, T.pos]
  · have h1 := (h.own.ev hE).set encM (i := os1.length) (j := 3) (x := e) (x' := e') (u := .slice A (e.kids ++ [m]).length cap') (by simp) (by omega) (by rw [he']; simp [mc, M.kv, M.kind, M.s, M.n, M.A, M.kids, M.cap, M.pos])
    have h2 : (os1 ++ e :: os2).set os1.length e' = os1 ++ e' :: os2 := by simp
    rwa [h2] at h1
  · have := h.len
    simp at this ⊢
    omega
  · intro x hx
    have hold : ∀ y, y ∈ os1 ++ e :: os2 → Lies (w0.heap.size + 1) [g] (W.setCell ⟨g, os1.length * 5 + 3, none⟩ (.slice A (e.kids ++ [m]).length cap')) y := fun y hy => ((h.lies y hy).ev hE).move hB fun _ hx => .inl hx
    rcases List.mem_append.1 hx with h1 | h1
    · exact hold x (List.mem_append_left _ h1)
    · rcases List.mem_cons.1 h1 with rfl | h1
      · subst he'
        refine .mk (hS.but hB fun ad e0 => ?_) (fun ad e0 => ?_) fun y hy => ?_
        · have := (hA ad e0).2.1
          simp
          have := hg.2.1
          omega
        · obtain ⟨_, h3, h4, _⟩ := hA ad e0
          have := hE.size
          have := hg.1
          have := hg.2.1
          refine ⟨by omega, by simpa [World.setCell] using h4, ?_⟩
          simp
          omega
        · rcases List.mem_append.1 hy with h2 | h2
          · exact (hold e (by simp)).kid y h2
          · simp at h2
            subst h2
            exact hm.move hB fun _ hx => .inl hx
      · exact hold x (List.mem_append_right _ (List.mem_cons_of_mem _ h1))
  · exact (h.ev.trans hE).box hB (by have := hg.1; omega)
  · exact (h.box.ev hE).but hB (by simp; have := hg.1; omega)
  · have := h.few
    simp at this ⊢
    omega
  · intro x hx
    rcases List.mem_append.1 hx with h1 | h1
    · have := h.kids x (List.mem_append_left _ h1); omega
    · rcases List.mem_cons.1 h1 with rfl | h1
      · have := h.kids e (by simp)
        rw [hkl]
        simp
        omega
      · have := h.kids x (List.mem_append_right _ (List.mem_cons_of_mem _ h1)); omega
theorem RfSt.pop {w0 w : World} {g q cap i : Nat} {os : List M} {e : M} (h : RfSt w0 g (q + 1) cap (os ++ [e]) i w) : RfSt w0 g q cap os i w := by
  have hl : os.length = q + 1 := by have := h.len; simp at this; omega
  refine ⟨?_, hl, fun e he => h.lies e (List.mem_append_left _ he), h.ev, h.box, by have := h.few; simp at this; omega, fun e he => h.kids e (List.mem_append_left _ he)⟩
  have := h.own.to encM rfl (q + 1) (by simp; omega)
  rwa [← hl, List.take_left' rfl, hl] at this
theorem RfSt.push {w0 w W : World} {g q cap i i' : Nat} {os : List M} {m : M} (h : RfSt w0 g q cap os i w) (hE : Ev w W) {v : Value} (hv : Ow 34 5 mc w.heap.size W v (os ++ [m])) (hm : ∀ w K, Lies (w0.heap.size + 1) K w m) (hk : m.kids = []) (hi : i < i') :
    ∃ g' cap', v = .slice (some ⟨g', 0, none⟩) (q + 1 + 1) cap' ∧ RfSt w0 g' (q + 1) cap' (os ++ [m]) i' W := by
  have hl : (os ++ [m]).length = q + 1 + 1 := by have := h.len; simp; omega
  obtain ⟨A, cap', hvv, hS, hA⟩ := hv.form encM
  subst hvv
  rw [hl] at hv hS hA ⊢
  obtain ⟨b, off, rfl, _, _⟩ := hS.rd (by omega)
  obtain ⟨_, h3, h4, h5, _⟩ := hA _ rfl
  simp at h5
  subst h5
  have hg := h.at
  simp at h3
  have hb0 : w0.heap.size + 1 ≤ w.heap.size := by have := hg.1; have := hg.2.1; omega
  refine ⟨b, cap', rfl, ⟨hv.low hb0, hl, ?_, h.ev.trans hE, h.box.ev hE, by have := h.few; simp; omega, ?_⟩⟩
  · intro e he
    rcases List.mem_append.1 he with h1 | h1
    · exact (h.lies e h1).move (But.of_ev (K := [g]) hE) fun x hx => by
        simp at hx
        subst hx
        exact .inr (.inr h3)
    · simp at h1
      subst h1
      exact hm _ _
  · intro e he
    rcases List.mem_append.1 he with h1 | h1
    · have := h.kids e h1; omega
    · simp at h1
      subst h1
      rw [hk]; simp

theorem RfSt.init (w : World) : RfSt w (w.heap.size + 1) 0 1 [mzero] 0 ((w.alloc (.cells #[.int .i64 0, .string ⟨#[]⟩, .int .i64 0, .slice none 0 0, .int .i64 0] 34)).alloc (.cells #[.int .i64 0, .string ⟨#[]⟩, .int .i64 0, .slice none 0 0, .int .i64 0] 34)) := by
  have hE := Ev.alloc w (.cells #[.int .i64 0, .string ⟨#[]⟩, .int .i64 0, .slice none 0 0, .int .i64 0] 34)
  refine ⟨?_, rfl, fun e he => ?_, hE.trans (Ev.alloc _ _), (Bx.new _ _ w).ev (Ev.alloc _ _), by simp, fun e he => ?_⟩
  · have := Ow.made (et := 34) (base := w.heap.size + 1) encM (w.alloc (.cells #[.int .i64 0, .string ⟨#[]⟩, .int .i64 0, .slice none 0 0, .int .i64 0] 34)) [mzero] #[.int .i64 0, .string ⟨#[]⟩, .int .i64 0, .slice none 0 0, .int .i64 0] rfl (by simp) (by simp)
    simpa using this
  · simp at he
    subst he
    exact Lies.zero _ _ _
  · simp at he
    subst he
    simp [mzero, M.kids]
theorem rfPop_snoc (os : List T) (e t : T) : rfPop (os ++ [e] ++ [t]) = os ++ [e.add t] := by
  unfold rfPop
  rw [List.getLast?_append]
  simp only [List.getLast?_singleton, Option.some_or, List.dropLast_concat]
  exact sxPut_snoc _ _ _
theorem sxDone_map {os : List M} {e : M} : sxDone ((e :: os).map M.t) = decide (0 < e.kids.length) := by
  simp only [sxDone, List.map_cons, M.t_kids]
  cases e.kids <;> simp

/-- An empty literal in memory. -/
def Empty0 (et : TypeId) (b : Nat) (v : Value) (w : World) : Prop := ∃ g, v = .slice (some ⟨g, 0, none⟩) 0 0 ∧ w.heap[g]? = some (.cells #[] et (0, 0)) ∧ b ≤ g
theorem Empty0.mono {et : TypeId} {b : Nat} : Mono (Empty0 et b) := fun v w w' hE ⟨g, h1, h2, h3⟩ => ⟨g, h1, by rw [hE.block g (Array.getElem?_eq_some_iff.1 h2).1]; exact h2, h3⟩
theorem Empty0.new {et : TypeId} {b : Nat} {w : World} (h : b ≤ w.heap.size) : Empty0 et b (.slice (some ⟨w.heap.size, 0, none⟩) 0 0) (w.alloc (.cells #[] et)) := ⟨_, rfl, heap_alloc_new w _, h⟩
theorem Empty0.ow {α : Type} {k : Nat} {enc : α → List Value} {et : TypeId} {b : Nat} {v : Value} {w : World} (h : Empty0 et b v w) : Ow et k enc b w v ([] : List α) := by
  obtain ⟨g, rfl, hg, hb⟩ := h
  exact ⟨by simp [cl], .inr ⟨g, 0, #[], rfl, hb, hg, Nat.le_refl _, by decide, by simp, by simp [cl]⟩⟩
/-- append onto an empty literal: nothing that was there turns. -/
theorem run_append_ow0 {α : Type} {k : Nat} {enc : α → List Value} {et : TypeId} {b : Nat} {v : Value} {w : World} {P : Program} (E : Enc k enc) (T ty : TypeId) (ht : P.underlying T = some (.slice et)) {zero : Value} {bytes : Nat} (hi : (P.info? et).map (fun i => (i.zero, i.size, i.bytes)) = some (some zero, k, bytes)) (hz : zero.cells.size = k)
    (hv : Empty0 et b v w) (A : Option Addr) (m c : Nat) (l : List α) (hB : Sl k enc w A m c l) (hbytes : l.length * bytes ≤ 140737488355328) (hsm : l.length ≤ 1000000000) (hbase : b ≤ w.heap.size) :
    ∃ v' w', (Builtin.append_ #[T, T] ty #[v, .slice A m c]).run P w = .ok v' w' ∧ Ow et k enc b w' v' l ∧ Ev w w' := by
  obtain ⟨v', w', hr, h1, h2, h3, h4⟩ := run_append_ow (P := P) E T ty ht hi hz (hv.ow (k := k) (enc := enc)) A m c l hB (by simpa using hbytes) (by simpa using hsm) hbase
  rw [List.nil_append] at h1
  refine ⟨v', w', hr, h1, ?_⟩
  obtain ⟨g, rfl, hg, hbg⟩ := hv
  refine ⟨h2.os, h2.tape, h2.output, h2.size, fun j hj => ?_⟩
  by_cases hjg : j = g
  · subst hjg
    obtain ⟨i, hi0, hz', hsz, hby⟩ := info_parts hi
    have hl := hB.len
    cases A with
    | none =>
      obtain ⟨rfl, rfl⟩ := hB.nil rfl
      have hr2 := run_append_owned_none (P := P) (w := w) b T ty et i k ht hi0 _ _ _ (Empty0.ow (k := k) (enc := enc) ⟨j, rfl, hg, hbg⟩)
      rw [hr] at hr2
      simp only [Result.ok.injEq] at hr2
      rw [hr2.2]
    | some ad =>
      by_cases hm : m = 0
      · subst hm
        have hr2 := run_append_room (P := P) w T ty et i ht hi0 j 0 0 #[] hg ad 0 c [] (by simp) (by simp) (by simp) (by omega) (by simp)
        rw [hr] at hr2
        simp only [Result.ok.injEq] at hr2
        rw [hr2.2, setRow_heap w j #[] _ et (0, 0) hg, hg]
        simp
      · have hcells : ∀ j u, (cl enc l)[j]? = some u → w.cell? (ad.add j) = some u := by
          intro q u hu
          obtain ⟨i', j', x, rfl, hx, hxu⟩ := cl_back E l q u hu
          have hq := (List.getElem?_eq_some_iff.1 hx).1
          obtain ⟨b', off, e, _, hc⟩ := hB.rd (by omega)
          obtain rfl := Option.some.inj e
          have := hc i' x hx j' u hxu
          rw [Addr.add_lit]
          rwa [show off + i' * k + j' = off + (i' * k + j') by omega] at this
        have hr2 := run_append_grow (P := P) w T ty et i zero ht hi0 hz' ⟨j, 0, none⟩ 0 0 [] (by simp) (by simp) ad m c (cl enc l) (by rw [cl_length E, hl, hsz]) hcells (by omega) (by omega) (growslice_fits (by omega) (by rw [hby]; rw [hl] at hbytes; simpa using hbytes))
        rw [hr] at hr2
        simp only [Result.ok.injEq] at hr2
        rw [hr2.2]
        exact ((Ev.drew w).trans (Ev.alloc w.drew _)).block j hj
  · exact h2.block j hj (fun hm => hjg (by have := mem_foot.1 hm; simp [Value.ownBlock] at this; exact this.symm))

theorem wpList_append_ow0 {α : Type} {k : Nat} {enc : α → List Value} {et : TypeId} {base : Nat} {v : Value} {P : Program} {w : World} {ops : Array Oper} {rest : List Oper} {o : Oper} {a : Act} {Q : Exit → Act → World → Prop} (hgd : o.guard = none) (T : TypeId) (s x : Operand)
    (ho : o.op = .call { callee := .builtin .append, args := #[s, x], argTypes := #[T, T] }) (E : Enc k enc)
    (ht : P.underlying T = some (.slice et)) {zero : Value} {bytes : Nat} (hi : (P.info? et).map (fun i => (i.zero, i.size, i.bytes)) = some (some zero, k, bytes)) (hz : zero.cells.size = k)
    (hs : a.eval s = v) (hown : Empty0 et base v w) (A : Option Addr) (m c : Nat) (l : List α) (hx : a.eval x = .slice A m c) (hB : Sl k enc w A m c l)
    (hbytes : l.length * bytes ≤ 140737488355328) (hsm : l.length ≤ 1000000000) (hbase : base ≤ w.heap.size)
    (h : ∀ v' w', Ow et k enc base w' v' l → Ev w w' → wpList P ops Q rest (a.put o.dst v') w') : wpList P ops Q (o :: rest) a w := by
  refine wpList_plain hgd fun K hK => ?_
  obtain ⟨v', w', hr, h2, h3⟩ := run_append_ow0 (P := P) E T o.type ht hi hz hown A m c l hB hbytes hsm hbase
  unfold Oper.wp execOp
  simp only [ho, resolve, invoke, builtin, Sem.run_bind, Sem.run_pure, Result.andThen_ok, List.map_toArray, List.map_cons, List.map_nil, hs, hx, hr]
  exact hK _ _ (h v' w' h2 h3)
/-- Laws for drawn regions over trees of the document's. -/
theorem run_build_none {ρ : Operand → Value} {o : Oper} (ho : o.op = .buildSlice 32 0 #[]) (w : World) : (execOp ρ o).run Try.prog w = .ok (.value (.slice (some ⟨w.heap.size, 0, none⟩) 0 0)) (w.alloc (.cells #[] 34)) := by
  unfold execOp
  rw [ho]
  simp [go_sem]
theorem run_build_one {ρ : Operand → Value} {o : Oper} {x : Operand} (m : M) (ho : o.op = .buildSlice 32 1 #[(0, x)]) (h : ρ x = mv m) (w : World) :
    (execOp ρ o).run Try.prog w = .ok (.value (.slice (some ⟨w.heap.size, 0, none⟩) 1 1)) (w.alloc (.cells (mc m).toArray 34)) := by
  unfold mv M.kv at h
  unfold mc M.kv
  unfold execOp
  rw [ho]
  simp [h, go_sem]
theorem run_index_tree {ρ : Operand → Value} {o : Oper} {x y : Operand} {g n cap : Nat} (k : Nat) (ho : o.op = .indexAddr 32 x y) (hx : ρ x = .slice (some ⟨g, 0, none⟩) n cap) (hy : ρ y = .int .i64 (k : Int)) (hk : k < n) (w : World) :
    (execOp ρ o).run Try.prog w = .ok (.value (.pointer (some ⟨g, k * 5, none⟩))) w := by
  have h1 : (k : Int) < (n : Int) := by omega
  have h2 : (0 : Int) ≤ (k : Int) := by omega
  unfold execOp
  rw [ho]
  simp [hx, hy, go_sem, h1, h2]
theorem run_field_tree {ρ : Operand → Value} {o : Oper} {x : Operand} {g i : Nat} (ho : o.op = .fieldAddr 34 x 3) (hx : ρ x = .pointer (some ⟨g, i, none⟩)) (w : World) :
    (execOp ρ o).run Try.prog w = .ok (.value (.pointer (some ⟨g, i + 3, none⟩))) w := by
  unfold execOp
  rw [ho]
  simp [hx, go_sem]
theorem run_load_kids {ρ : Operand → Value} {o : Oper} {x : Operand} {a : Addr} {v : Value} {w : World} (ho : o.op = .load 32 x) (hx : ρ x = .pointer (some a)) (c0 : w.cell? a = some v) :
    (execOp ρ o).run Try.prog w = .ok (.value v) w := by
  unfold execOp
  rw [ho]
  simp [hx, go_sem, c0]
theorem run_load_tree {ρ : Operand → Value} {o : Oper} {x : Operand} {b off : Nat} {w : World} (m : M) (ho : o.op = .load 34 x) (hx : ρ x = .pointer (some ⟨b, off, none⟩)) (hc : ∀ j u, (mc m)[j]? = some u → w.cell? ⟨b, off + j, none⟩ = some u) :
    (execOp ρ o).run Try.prog w = .ok (.value (mv m)) w := by
  have c0 : w.cell? ⟨b, off, none⟩ = some (.int .i64 m.kind) := hc 0 _ rfl
  have c1 : w.cell? ⟨b, off + 1, none⟩ = some (.string ⟨m.s.toArray⟩) := hc 1 _ rfl
  have c2 : w.cell? ⟨b, off + 2, none⟩ = some (.int .i64 m.n) := hc 2 _ rfl
  have c3 : w.cell? ⟨b, off + 3, none⟩ = some m.kv := hc 3 _ rfl
  have c4 : w.cell? ⟨b, off + 4, none⟩ = some (.int .i64 (m.pos : Int)) := hc 4 _ rfl
  unfold mv
  unfold execOp
  rw [ho]
  simp [hx, go_sem, c0, c1, c2, c3, c4]
theorem run_append_at {P : Program} {a : Act} {o : Oper} {x y : Operand} {T : TypeId} {u v' : Value} {w w' : World} (ho : o.op = .call { callee := .builtin .append, args := #[x, y], argTypes := #[T, T] }) (hy : a.eval y = u)
    (hr : (Builtin.append_ #[T, T] o.type #[a.eval x, u]).run P w = .ok v' w') : (execOp a.eval o).run P w = .ok (.value v') w' := by
  unfold execOp
  simp only [ho, resolve, invoke, builtin, Sem.run_bind, Sem.run_pure, Result.andThen_ok, List.map_toArray, List.map_cons, List.map_nil, hy, hr]
end Go.Proofs.Ytgiofdmedhhobaa

namespace Go.Proofs.Ytgiofdmedhhobaa
open Go.RowKit
set_option linter.unusedVariables false

/-- What Exprs gives for lists that are alike, no deeper than N. -/
def ExAt (N : Nat) : Prop := ∀ (l l' : List M) (b0 b1 : Nat) (w : World) (A : Option Addr) (n cap : Nat) (B : Option Addr) (cap' : Nat), M.deps l ≤ N → l.map M.t = l'.map M.t → Es w A n cap l → Es w B n cap' l' → (∀ x ∈ l, Lx b0 [] w x) → (∀ x ∈ l', Lx b1 [] w x) →
  Calls Try.prog 11 #[.slice A n cap, .slice B n cap'] w fun e w' => e = .returned (.bool true) ∧ Ev w w'
theorem alike_at {x y : M} (h : x.t = y.t) : y.kind = x.kind ∧ y.s = x.s ∧ y.n = x.n ∧ y.kids.length = x.kids.length ∧ x.kids.map M.t = y.kids.map M.t := by
  rw [M.t_eq, M.t_eq y] at h
  injection h with h1 h2 h3 h4 h5
  have h6 := congrArg List.length h4
  rw [List.length_map, List.length_map] at h6
  exact ⟨h1.symm, h2.symm, h3.symm, h6.symm, h4⟩

set_option maxRecDepth 100000 in
set_option maxHeartbeats 8000000 in
theorem keep_exprs_step (N : Nat) (ih : ∀ K, K < N → ExAt K) : ExAt N := by
  intro l l' b0 b1 w A n cap B cap' hd hll hA hB hxl hyl
  have hc1 := hA.le
  have hc2 := hA.max
  have hc3 := hB.le
  have hc4 := hB.max
  have HA := Lib.hid hA
  have HB := Lib.hid hB
  have HXL := Lib.hid hxl
  have HYL := Lib.hid hyl
  have HLL := Lib.hid hll
  have HD := Lib.hid hd
  unfold ExAt at ih
  have HIH := Lib.hid ih
  have hmix : Try.prog.follows .mixedOrders = true := by kernel_rfl
  clear ih hd hll hA hB hxl hyl
  go_enter Try.func11, Try.ntmps11
  go_wp2
  go_loopw [5] (fun iv wr => ∃ q : Nat, q ≤ n ∧ iv = .int .i64 (q : Int) ∧ Ev w wr) (fun iv _ => n - (intOf iv).toNat)
  case atStart => exact ⟨0, Nat.zero_le _, rfl, Ev.refl _⟩
  case round =>
    obtain ⟨q, hq, rfl, hE⟩ := hrel
    by_cases hlt : q < n
    · obtain ⟨x, hx⟩ := HA.out.at hlt
      obtain ⟨y, hy⟩ := HB.out.at hlt
      have hxy : x.t = y.t := by
        have h1 : (l.map M.t)[q]? = some x.t := by rw [List.getElem?_map, hx]; rfl
        rw [HLL.out, List.getElem?_map, hy] at h1
        exact (Option.some.inj h1).symm
      obtain ⟨h1, h2, h3, h4, h5⟩ := alike_at hxy
      obtain ⟨b, off, rfl, hbl, e0, e1, e2, e3⟩ := Es.cell (HA.out.ev hE) hx
      obtain ⟨b', off', rfl, hbl', g0, g1, g2, g3⟩ := Es.cell (HB.out.ev hE) hy
      unfold M.kv at e3 g3
      rw [h1] at g0
      rw [h2] at g1
      rw [h3] at g2
      rw [h4] at g3
      have hxm := List.mem_of_getElem? hx
      have hym := List.mem_of_getElem? hy
      have HPx := Lib.hid (fun w1 (h1 : Ev wr w1) => HIH.out (M.deps x.kids) (by have := M.dep_kid l x hxm; have := M.dep_eq x; have := HD.out; omega) x.kids y.kids b0 b1 w1 x.A x.kids.length x.cap y.A y.cap (Nat.le_refl _) h5 ((HXL.out x hxm).es.ev (hE.trans h1)) (by rw [← h4]; exact (HYL.out y hym).es.ev (hE.trans h1)) (fun z hz => ((HXL.out x hxm).kid z hz).ev (hE.trans h1)) (fun z hz => ((HYL.out y hym).kid z hz).ev (hE.trans h1)))
      have j1 : (0 : Int) ≤ (q : Int) := by omega
      have j2 : (q : Int) < (n : Int) := by omega
      clear hx hy hxy h1 h2 h3 h5 hxm hym
      generalize hxn : x.kids.length = xn at *
      clear h4 hxn
      generalize x.A = xA at *
      generalize y.A = yA at *
      generalize x.cap = xc at *
      generalize y.cap = yc at *
      generalize x.kind = xk at *
      generalize x.s = xs at *
      generalize x.n = xv at *
      go_wp2_with fail
      refine wp_region_slots hmix [fun v _ => v = .slice (some ⟨b, off, none⟩) n cap, fun v _ => v = .int .i64 (q : Int), fun v _ => v = .pointer (some ⟨b, off + q * 4, none⟩), fun v _ => v = .pointer (some ⟨b, off + q * 4, none⟩), fun v _ => v = .int .i64 xk, fun v _ => v = .slice (some ⟨b', off', none⟩) n cap', fun v _ => v = .int .i64 (q : Int), fun v _ => v = .pointer (some ⟨b', off' + q * 4, none⟩), fun v _ => v = .pointer (some ⟨b', off' + q * 4, none⟩), fun v _ => v = .int .i64 xk, fun v _ => v = .bool false, fun v _ => v = .bool false, fun v _ => v = .slice (some ⟨b, off, none⟩) n cap, fun v _ => v = .int .i64 (q : Int), fun v _ => v = .pointer (some ⟨b, off + q * 4, none⟩), fun v _ => v = .pointer (some ⟨b, off + q * 4 + 1, none⟩), fun v _ => v = .string ⟨xs.toArray⟩, fun v _ => v = .slice (some ⟨b', off', none⟩) n cap', fun v _ => v = .int .i64 (q : Int), fun v _ => v = .pointer (some ⟨b', off' + q * 4, none⟩), fun v _ => v = .pointer (some ⟨b', off' + q * 4 + 1, none⟩), fun v _ => v = .string ⟨xs.toArray⟩, fun v _ => v = .bool false, fun v _ => v = .bool false, fun v _ => v = .bool false, fun v _ => v = .slice (some ⟨b, off, none⟩) n cap, fun v _ => v = .int .i64 (q : Int), fun v _ => v = .pointer (some ⟨b, off + q * 4, none⟩), fun v _ => v = .pointer (some ⟨b, off + q * 4 + 2, none⟩), fun v _ => v = .int .i64 xv, fun v _ => v = .slice (some ⟨b', off', none⟩) n cap', fun v _ => v = .int .i64 (q : Int), fun v _ => v = .pointer (some ⟨b', off' + q * 4, none⟩), fun v _ => v = .pointer (some ⟨b', off' + q * 4 + 2, none⟩), fun v _ => v = .int .i64 xv, fun v _ => v = .bool false, fun v _ => v = .bool false, fun v _ => v = .bool false, fun v _ => v = .slice (some ⟨b, off, none⟩) n cap, fun v _ => v = .int .i64 (q : Int), fun v _ => v = .pointer (some ⟨b, off + q * 4, none⟩), fun v _ => v = .pointer (some ⟨b, off + q * 4 + 3, none⟩), fun v _ => v = .slice xA xn xc, fun v _ => v = .slice (some ⟨b', off', none⟩) n cap', fun v _ => v = .int .i64 (q : Int), fun v _ => v = .pointer (some ⟨b', off' + q * 4, none⟩), fun v _ => v = .pointer (some ⟨b', off' + q * 4 + 3, none⟩), fun v _ => v = .slice yA xn yc, fun v _ => v = .bool true, fun v _ => v = .bool false, fun v _ => v = .bool false]
        68 rfl (by kernel_rfl) ⟨mono_eq _, mono_eq _, mono_eq _, mono_eq _, mono_eq _, mono_eq _, mono_eq _, mono_eq _, mono_eq _, mono_eq _, mono_eq _, mono_eq _, mono_eq _, mono_eq _, mono_eq _, mono_eq _, mono_eq _, mono_eq _, mono_eq _, mono_eq _, mono_eq _, mono_eq _, mono_eq _, mono_eq _, mono_eq _, mono_eq _, mono_eq _, mono_eq _, mono_eq _, mono_eq _, mono_eq _, mono_eq _, mono_eq _, mono_eq _, mono_eq _, mono_eq _, mono_eq _, mono_eq _, mono_eq _, mono_eq _, mono_eq _, mono_eq _, mono_eq _, mono_eq _, mono_eq _, mono_eq _, mono_eq _, mono_eq _, mono_eq _, mono_eq _, mono_eq _, trivial⟩ ?_ ?_
      · refine ops_cons 0 ?_ (ops_cons 1 ?_ (ops_cons 2 ?_ (ops_cons 3 ?_ (ops_cons 4 ?_ (ops_cons 5 ?_ (ops_cons 6 ?_ (ops_cons 7 ?_ (ops_cons 8 ?_ (ops_cons 9 ?_ (ops_cons 10 ?_ (ops_cons 11 ?_ (ops_cons 12 ?_ (ops_cons 13 ?_ (ops_cons 14 ?_ (ops_cons 15 ?_ (ops_cons 16 ?_ (ops_cons 17 ?_ (ops_cons 18 ?_ (ops_cons 19 ?_ (ops_cons 20 ?_ (ops_cons 21 ?_ (ops_cons 22 ?_ (ops_cons 23 ?_ (ops_cons 24 ?_ (ops_cons 25 ?_ (ops_cons 26 ?_ (ops_cons 27 ?_ (ops_cons 28 ?_ (ops_cons 29 ?_ (ops_cons 30 ?_ (ops_cons 31 ?_ (ops_cons 32 ?_ (ops_cons 33 ?_ (ops_cons 34 ?_ (ops_cons 35 ?_ (ops_cons 36 ?_ (ops_cons 37 ?_ (ops_cons 38 ?_ (ops_cons 39 ?_ (ops_cons 40 ?_ (ops_cons 41 ?_ (ops_cons 42 ?_ (ops_cons 43 ?_ (ops_cons 44 ?_ (ops_cons 45 ?_ (ops_cons 46 ?_ (ops_cons 47 ?_ (ops_cons 48 ?_ (ops_cons 49 ?_ (ops_cons 50 ?_ (ops_nil 51)))))))))))))))))))))))))))))))))))))))))))))))))))
        · refine op_value fun a w c => ⟨(wanted_plain rfl), _, run_move _ rfl w, (c.was 0 (by kernel_rfl) rfl)⟩
        · refine op_value fun a w c => ⟨(wanted_plain rfl), _, run_move _ rfl w, (c.was 5 (by kernel_rfl) rfl)⟩
        · refine op_value fun a w c => ⟨(wanted_plain rfl), .pointer (some ⟨b, off + q * 4, none⟩), ?_, rfl⟩
          have e17 : a.eval (.tmp 17) = .slice (some ⟨b, off, none⟩) n cap := (c.new 0 17 (by kernel_rfl) (by kernel_rfl))
          have e18 : a.eval (.tmp 18) = .int .i64 (q : Int) := (c.new 1 18 (by kernel_rfl) (by kernel_rfl))
          generalize a.eval = ρ at e17 e18 ⊢
          simp [execOp, e17, e18, go_sem, j1, j2]
        · refine op_value fun a w c => ⟨(wanted_plain rfl), .pointer (some ⟨b, off + q * 4, none⟩), ?_, rfl⟩
          have e19 : a.eval (.tmp 19) = .pointer (some ⟨b, off + q * 4, none⟩) := (c.new 2 19 (by kernel_rfl) (by kernel_rfl))
          generalize a.eval = ρ at e19 ⊢
          simp [execOp, e19, go_sem]
        · refine op_value fun a w c => ⟨(wanted_plain rfl), .int .i64 xk, ?_, rfl⟩
          have e20 : a.eval (.tmp 20) = .pointer (some ⟨b, off + q * 4, none⟩) := (c.new 3 20 (by kernel_rfl) (by kernel_rfl))
          have hc := (c.ev.cell (p := ⟨_, _, none⟩) hbl).trans e0
          generalize a.eval = ρ at e20 ⊢
          simp [execOp, e20, hc, go_sem]
        · refine op_value fun a w c => ⟨(wanted_plain rfl), _, run_move _ rfl w, (c.was 1 (by kernel_rfl) rfl)⟩
        · refine op_value fun a w c => ⟨(wanted_plain rfl), _, run_move _ rfl w, (c.was 5 (by kernel_rfl) rfl)⟩
        · refine op_value fun a w c => ⟨(wanted_plain rfl), .pointer (some ⟨b', off' + q * 4, none⟩), ?_, rfl⟩
          have e22 : a.eval (.tmp 22) = .slice (some ⟨b', off', none⟩) n cap' := (c.new 5 22 (by kernel_rfl) (by kernel_rfl))
          have e23 : a.eval (.tmp 23) = .int .i64 (q : Int) := (c.new 6 23 (by kernel_rfl) (by kernel_rfl))
          generalize a.eval = ρ at e22 e23 ⊢
          simp [execOp, e22, e23, go_sem, j1, j2]
        · refine op_value fun a w c => ⟨(wanted_plain rfl), .pointer (some ⟨b', off' + q * 4, none⟩), ?_, rfl⟩
          have e24 : a.eval (.tmp 24) = .pointer (some ⟨b', off' + q * 4, none⟩) := (c.new 7 24 (by kernel_rfl) (by kernel_rfl))
          generalize a.eval = ρ at e24 ⊢
          simp [execOp, e24, go_sem]
        · refine op_value fun a w c => ⟨(wanted_plain rfl), .int .i64 xk, ?_, rfl⟩
          have e25 : a.eval (.tmp 25) = .pointer (some ⟨b', off' + q * 4, none⟩) := (c.new 8 25 (by kernel_rfl) (by kernel_rfl))
          have hc := (c.ev.cell (p := ⟨_, _, none⟩) hbl').trans g0
          generalize a.eval = ρ at e25 ⊢
          simp [execOp, e25, hc, go_sem]
        · refine op_value fun a w c => ⟨(wanted_plain rfl), .bool false, ?_, rfl⟩
          have e21 : a.eval (.tmp 21) = .int .i64 xk := (c.new 4 21 (by kernel_rfl) (by kernel_rfl))
          have e26 : a.eval (.tmp 26) = .int .i64 xk := (c.new 9 26 (by kernel_rfl) (by kernel_rfl))
          generalize a.eval = ρ at e21 e26 ⊢
          simp [execOp, e21, e26, go_sem]
        · refine op_value fun a w c => ⟨(wanted_plain rfl), _, run_move _ rfl w, (c.new 10 27 (by kernel_rfl) (by kernel_rfl))⟩
        · refine op_value fun a w c => ⟨(wanted_yes rfl (by kernel_rfl) (c.new 11 28 (by kernel_rfl) (by kernel_rfl))), _, run_move _ rfl w, (c.was 0 (by kernel_rfl) rfl)⟩
        · refine op_value fun a w c => ⟨(wanted_yes rfl (by kernel_rfl) (c.new 11 28 (by kernel_rfl) (by kernel_rfl))), _, run_move _ rfl w, (c.was 5 (by kernel_rfl) rfl)⟩
        · refine op_value fun a w c => ⟨(wanted_yes rfl (by kernel_rfl) (c.new 11 28 (by kernel_rfl) (by kernel_rfl))), .pointer (some ⟨b, off + q * 4, none⟩), ?_, rfl⟩
          have e29 : a.eval (.tmp 29) = .slice (some ⟨b, off, none⟩) n cap := (c.new 12 29 (by kernel_rfl) (by kernel_rfl))
          have e30 : a.eval (.tmp 30) = .int .i64 (q : Int) := (c.new 13 30 (by kernel_rfl) (by kernel_rfl))
          generalize a.eval = ρ at e29 e30 ⊢
          simp [execOp, e29, e30, go_sem, j1, j2]
        · refine op_value fun a w c => ⟨(wanted_yes rfl (by kernel_rfl) (c.new 11 28 (by kernel_rfl) (by kernel_rfl))), .pointer (some ⟨b, off + q * 4 + 1, none⟩), ?_, rfl⟩
          have e31 : a.eval (.tmp 31) = .pointer (some ⟨b, off + q * 4, none⟩) := (c.new 14 31 (by kernel_rfl) (by kernel_rfl))
          generalize a.eval = ρ at e31 ⊢
          simp [execOp, e31, go_sem]
        · refine op_value fun a w c => ⟨(wanted_yes rfl (by kernel_rfl) (c.new 11 28 (by kernel_rfl) (by kernel_rfl))), .string ⟨xs.toArray⟩, ?_, rfl⟩
          have e32 : a.eval (.tmp 32) = .pointer (some ⟨b, off + q * 4 + 1, none⟩) := (c.new 15 32 (by kernel_rfl) (by kernel_rfl))
          have hc := (c.ev.cell (p := ⟨_, _, none⟩) hbl).trans e1
          generalize a.eval = ρ at e32 ⊢
          simp [execOp, e32, hc, go_sem]
        · refine op_value fun a w c => ⟨(wanted_yes rfl (by kernel_rfl) (c.new 11 28 (by kernel_rfl) (by kernel_rfl))), _, run_move _ rfl w, (c.was 1 (by kernel_rfl) rfl)⟩
        · refine op_value fun a w c => ⟨(wanted_yes rfl (by kernel_rfl) (c.new 11 28 (by kernel_rfl) (by kernel_rfl))), _, run_move _ rfl w, (c.was 5 (by kernel_rfl) rfl)⟩
        · refine op_value fun a w c => ⟨(wanted_yes rfl (by kernel_rfl) (c.new 11 28 (by kernel_rfl) (by kernel_rfl))), .pointer (some ⟨b', off' + q * 4, none⟩), ?_, rfl⟩
          have e34 : a.eval (.tmp 34) = .slice (some ⟨b', off', none⟩) n cap' := (c.new 17 34 (by kernel_rfl) (by kernel_rfl))
          have e35 : a.eval (.tmp 35) = .int .i64 (q : Int) := (c.new 18 35 (by kernel_rfl) (by kernel_rfl))
          generalize a.eval = ρ at e34 e35 ⊢
          simp [execOp, e34, e35, go_sem, j1, j2]
        · refine op_value fun a w c => ⟨(wanted_yes rfl (by kernel_rfl) (c.new 11 28 (by kernel_rfl) (by kernel_rfl))), .pointer (some ⟨b', off' + q * 4 + 1, none⟩), ?_, rfl⟩
          have e36 : a.eval (.tmp 36) = .pointer (some ⟨b', off' + q * 4, none⟩) := (c.new 19 36 (by kernel_rfl) (by kernel_rfl))
          generalize a.eval = ρ at e36 ⊢
          simp [execOp, e36, go_sem]
        · refine op_value fun a w c => ⟨(wanted_yes rfl (by kernel_rfl) (c.new 11 28 (by kernel_rfl) (by kernel_rfl))), .string ⟨xs.toArray⟩, ?_, rfl⟩
          have e37 : a.eval (.tmp 37) = .pointer (some ⟨b', off' + q * 4 + 1, none⟩) := (c.new 20 37 (by kernel_rfl) (by kernel_rfl))
          have hc := (c.ev.cell (p := ⟨_, _, none⟩) hbl').trans g1
          generalize a.eval = ρ at e37 ⊢
          simp [execOp, e37, hc, go_sem]
        · refine op_value fun a w c => ⟨(wanted_yes rfl (by kernel_rfl) (c.new 11 28 (by kernel_rfl) (by kernel_rfl))), .bool false, ?_, rfl⟩
          have e33 : a.eval (.tmp 33) = .string ⟨xs.toArray⟩ := (c.new 16 33 (by kernel_rfl) (by kernel_rfl))
          have e38 : a.eval (.tmp 38) = .string ⟨xs.toArray⟩ := (c.new 21 38 (by kernel_rfl) (by kernel_rfl))
          generalize a.eval = ρ at e33 e38 ⊢
          simp [execOp, e33, e38, go_sem]
        · refine op_value fun a w c => ⟨(wanted_plain rfl), _, run_pick_false rfl (c.new 11 28 (by kernel_rfl) (by kernel_rfl)) w, (c.new 22 39 (by kernel_rfl) (by kernel_rfl))⟩
        · refine op_value fun a w c => ⟨(wanted_plain rfl), _, run_move _ rfl w, (c.new 23 40 (by kernel_rfl) (by kernel_rfl))⟩
        · refine op_value fun a w c => ⟨(wanted_yes rfl (by kernel_rfl) (c.new 24 41 (by kernel_rfl) (by kernel_rfl))), _, run_move _ rfl w, (c.was 0 (by kernel_rfl) rfl)⟩
        · refine op_value fun a w c => ⟨(wanted_yes rfl (by kernel_rfl) (c.new 24 41 (by kernel_rfl) (by kernel_rfl))), _, run_move _ rfl w, (c.was 5 (by kernel_rfl) rfl)⟩
        · refine op_value fun a w c => ⟨(wanted_yes rfl (by kernel_rfl) (c.new 24 41 (by kernel_rfl) (by kernel_rfl))), .pointer (some ⟨b, off + q * 4, none⟩), ?_, rfl⟩
          have e42 : a.eval (.tmp 42) = .slice (some ⟨b, off, none⟩) n cap := (c.new 25 42 (by kernel_rfl) (by kernel_rfl))
          have e43 : a.eval (.tmp 43) = .int .i64 (q : Int) := (c.new 26 43 (by kernel_rfl) (by kernel_rfl))
          generalize a.eval = ρ at e42 e43 ⊢
          simp [execOp, e42, e43, go_sem, j1, j2]
        · refine op_value fun a w c => ⟨(wanted_yes rfl (by kernel_rfl) (c.new 24 41 (by kernel_rfl) (by kernel_rfl))), .pointer (some ⟨b, off + q * 4 + 2, none⟩), ?_, rfl⟩
          have e44 : a.eval (.tmp 44) = .pointer (some ⟨b, off + q * 4, none⟩) := (c.new 27 44 (by kernel_rfl) (by kernel_rfl))
          generalize a.eval = ρ at e44 ⊢
          simp [execOp, e44, go_sem]
        · refine op_value fun a w c => ⟨(wanted_yes rfl (by kernel_rfl) (c.new 24 41 (by kernel_rfl) (by kernel_rfl))), .int .i64 xv, ?_, rfl⟩
          have e45 : a.eval (.tmp 45) = .pointer (some ⟨b, off + q * 4 + 2, none⟩) := (c.new 28 45 (by kernel_rfl) (by kernel_rfl))
          have hc := (c.ev.cell (p := ⟨_, _, none⟩) hbl).trans e2
          generalize a.eval = ρ at e45 ⊢
          simp [execOp, e45, hc, go_sem]
        · refine op_value fun a w c => ⟨(wanted_yes rfl (by kernel_rfl) (c.new 24 41 (by kernel_rfl) (by kernel_rfl))), _, run_move _ rfl w, (c.was 1 (by kernel_rfl) rfl)⟩
        · refine op_value fun a w c => ⟨(wanted_yes rfl (by kernel_rfl) (c.new 24 41 (by kernel_rfl) (by kernel_rfl))), _, run_move _ rfl w, (c.was 5 (by kernel_rfl) rfl)⟩
        · refine op_value fun a w c => ⟨(wanted_yes rfl (by kernel_rfl) (c.new 24 41 (by kernel_rfl) (by kernel_rfl))), .pointer (some ⟨b', off' + q * 4, none⟩), ?_, rfl⟩
          have e47 : a.eval (.tmp 47) = .slice (some ⟨b', off', none⟩) n cap' := (c.new 30 47 (by kernel_rfl) (by kernel_rfl))
          have e48 : a.eval (.tmp 48) = .int .i64 (q : Int) := (c.new 31 48 (by kernel_rfl) (by kernel_rfl))
          generalize a.eval = ρ at e47 e48 ⊢
          simp [execOp, e47, e48, go_sem, j1, j2]
        · refine op_value fun a w c => ⟨(wanted_yes rfl (by kernel_rfl) (c.new 24 41 (by kernel_rfl) (by kernel_rfl))), .pointer (some ⟨b', off' + q * 4 + 2, none⟩), ?_, rfl⟩
          have e49 : a.eval (.tmp 49) = .pointer (some ⟨b', off' + q * 4, none⟩) := (c.new 32 49 (by kernel_rfl) (by kernel_rfl))
          generalize a.eval = ρ at e49 ⊢
          simp [execOp, e49, go_sem]
        · refine op_value fun a w c => ⟨(wanted_yes rfl (by kernel_rfl) (c.new 24 41 (by kernel_rfl) (by kernel_rfl))), .int .i64 xv, ?_, rfl⟩
          have e50 : a.eval (.tmp 50) = .pointer (some ⟨b', off' + q * 4 + 2, none⟩) := (c.new 33 50 (by kernel_rfl) (by kernel_rfl))
          have hc := (c.ev.cell (p := ⟨_, _, none⟩) hbl').trans g2
          generalize a.eval = ρ at e50 ⊢
          simp [execOp, e50, hc, go_sem]
        · refine op_value fun a w c => ⟨(wanted_yes rfl (by kernel_rfl) (c.new 24 41 (by kernel_rfl) (by kernel_rfl))), .bool false, ?_, rfl⟩
          have e46 : a.eval (.tmp 46) = .int .i64 xv := (c.new 29 46 (by kernel_rfl) (by kernel_rfl))
          have e51 : a.eval (.tmp 51) = .int .i64 xv := (c.new 34 51 (by kernel_rfl) (by kernel_rfl))
          generalize a.eval = ρ at e46 e51 ⊢
          simp [execOp, e46, e51, go_sem]
        · refine op_value fun a w c => ⟨(wanted_plain rfl), _, run_pick_false rfl (c.new 24 41 (by kernel_rfl) (by kernel_rfl)) w, (c.new 35 52 (by kernel_rfl) (by kernel_rfl))⟩
        · refine op_value fun a w c => ⟨(wanted_plain rfl), _, run_move _ rfl w, (c.new 36 53 (by kernel_rfl) (by kernel_rfl))⟩
        · refine op_value fun a w c => ⟨(wanted_yes rfl (by kernel_rfl) (c.new 37 54 (by kernel_rfl) (by kernel_rfl))), _, run_move _ rfl w, (c.was 0 (by kernel_rfl) rfl)⟩
        · refine op_value fun a w c => ⟨(wanted_yes rfl (by kernel_rfl) (c.new 37 54 (by kernel_rfl) (by kernel_rfl))), _, run_move _ rfl w, (c.was 5 (by kernel_rfl) rfl)⟩
        · refine op_value fun a w c => ⟨(wanted_yes rfl (by kernel_rfl) (c.new 37 54 (by kernel_rfl) (by kernel_rfl))), .pointer (some ⟨b, off + q * 4, none⟩), ?_, rfl⟩
          have e55 : a.eval (.tmp 55) = .slice (some ⟨b, off, none⟩) n cap := (c.new 38 55 (by kernel_rfl) (by kernel_rfl))
          have e56 : a.eval (.tmp 56) = .int .i64 (q : Int) := (c.new 39 56 (by kernel_rfl) (by kernel_rfl))
          generalize a.eval = ρ at e55 e56 ⊢
          simp [execOp, e55, e56, go_sem, j1, j2]
        · refine op_value fun a w c => ⟨(wanted_yes rfl (by kernel_rfl) (c.new 37 54 (by kernel_rfl) (by kernel_rfl))), .pointer (some ⟨b, off + q * 4 + 3, none⟩), ?_, rfl⟩
          have e57 : a.eval (.tmp 57) = .pointer (some ⟨b, off + q * 4, none⟩) := (c.new 40 57 (by kernel_rfl) (by kernel_rfl))
          generalize a.eval = ρ at e57 ⊢
          simp [execOp, e57, go_sem]
        · refine op_value fun a w c => ⟨(wanted_yes rfl (by kernel_rfl) (c.new 37 54 (by kernel_rfl) (by kernel_rfl))), .slice xA xn xc, ?_, rfl⟩
          have e58 : a.eval (.tmp 58) = .pointer (some ⟨b, off + q * 4 + 3, none⟩) := (c.new 41 58 (by kernel_rfl) (by kernel_rfl))
          have hc := (c.ev.cell (p := ⟨_, _, none⟩) hbl).trans e3
          generalize a.eval = ρ at e58 ⊢
          simp [execOp, e58, hc, go_sem]
        · refine op_value fun a w c => ⟨(wanted_yes rfl (by kernel_rfl) (c.new 37 54 (by kernel_rfl) (by kernel_rfl))), _, run_move _ rfl w, (c.was 1 (by kernel_rfl) rfl)⟩
        · refine op_value fun a w c => ⟨(wanted_yes rfl (by kernel_rfl) (c.new 37 54 (by kernel_rfl) (by kernel_rfl))), _, run_move _ rfl w, (c.was 5 (by kernel_rfl) rfl)⟩
        · refine op_value fun a w c => ⟨(wanted_yes rfl (by kernel_rfl) (c.new 37 54 (by kernel_rfl) (by kernel_rfl))), .pointer (some ⟨b', off' + q * 4, none⟩), ?_, rfl⟩
          have e60 : a.eval (.tmp 60) = .slice (some ⟨b', off', none⟩) n cap' := (c.new 43 60 (by kernel_rfl) (by kernel_rfl))
          have e61 : a.eval (.tmp 61) = .int .i64 (q : Int) := (c.new 44 61 (by kernel_rfl) (by kernel_rfl))
          generalize a.eval = ρ at e60 e61 ⊢
          simp [execOp, e60, e61, go_sem, j1, j2]
        · refine op_value fun a w c => ⟨(wanted_yes rfl (by kernel_rfl) (c.new 37 54 (by kernel_rfl) (by kernel_rfl))), .pointer (some ⟨b', off' + q * 4 + 3, none⟩), ?_, rfl⟩
          have e62 : a.eval (.tmp 62) = .pointer (some ⟨b', off' + q * 4, none⟩) := (c.new 45 62 (by kernel_rfl) (by kernel_rfl))
          generalize a.eval = ρ at e62 ⊢
          simp [execOp, e62, go_sem]
        · refine op_value fun a w c => ⟨(wanted_yes rfl (by kernel_rfl) (c.new 37 54 (by kernel_rfl) (by kernel_rfl))), .slice yA xn yc, ?_, rfl⟩
          have e63 : a.eval (.tmp 63) = .pointer (some ⟨b', off' + q * 4 + 3, none⟩) := (c.new 46 63 (by kernel_rfl) (by kernel_rfl))
          have hc := (c.ev.cell (p := ⟨_, _, none⟩) hbl').trans g3
          generalize a.eval = ρ at e63 ⊢
          simp [execOp, e63, hc, go_sem]
        · refine op_call fun a w c => ⟨(wanted_yes rfl (by kernel_rfl) (c.new 37 54 (by kernel_rfl) (by kernel_rfl))), 11, #[.slice xA xn xc, .slice yA xn yc], ?_, ?_⟩
          · rw [run_call 11 _ _ rfl (by kernel_rfl)]
            have e59 : a.eval (.tmp 59) = .slice xA xn xc := (c.new 42 59 (by kernel_rfl) (by kernel_rfl))
            have e64 : a.eval (.tmp 64) = .slice yA xn yc := (c.new 47 64 (by kernel_rfl) (by kernel_rfl))
            simp [e59, e64]
          · refine (HPx.out w c.ev).mono ?_
            rintro e w2 ⟨rfl, hE⟩
            exact ⟨_, rfl, hE, rfl⟩
        · refine op_value fun a w c => ⟨(wanted_yes rfl (by kernel_rfl) (c.new 37 54 (by kernel_rfl) (by kernel_rfl))), .bool false, ?_, rfl⟩
          have e65 : a.eval (.tmp 65) = .bool true := (c.new 48 65 (by kernel_rfl) (by kernel_rfl))
          generalize a.eval = ρ at e65 ⊢
          simp [execOp, e65, go_sem]
        · refine op_value fun a w c => ⟨(wanted_plain rfl), _, run_pick_false rfl (c.new 37 54 (by kernel_rfl) (by kernel_rfl)) w, (c.new 49 66 (by kernel_rfl) (by kernel_rfl))⟩
      intro sl wq hEr hold hnew
      have f0 : sl 0 = .slice (some ⟨b, off, none⟩) n cap := hold 0 (by kernel_rfl)
      have f1 : sl 1 = .slice (some ⟨b', off', none⟩) n cap' := hold 1 (by kernel_rfl)
      have f2 : sl 2 = undef := hold 2 (by kernel_rfl)
      have f3 : sl 3 = undef := hold 3 (by kernel_rfl)
      have f4 : sl 4 = u4 := hold 4 (by kernel_rfl)
      have f5 : sl 5 = .int .i64 (q : Int) := hold 5 (by kernel_rfl)
      have f6 : sl 6 = .slice (some ⟨b, off, none⟩) n cap := hold 6 (by kernel_rfl)
      have f7 : sl 7 = .int .i64 (n : Int) := hold 7 (by kernel_rfl)
      have f8 : sl 8 = .slice (some ⟨b', off', none⟩) n cap' := hold 8 (by kernel_rfl)
      have f9 : sl 9 = .int .i64 (n : Int) := hold 9 (by kernel_rfl)
      have f10 : sl 10 = .bool false := hold 10 (by kernel_rfl)
      have f11 : sl 11 = .int .i64 (q : Int) := hold 11 (by kernel_rfl)
      have f12 : sl 12 = .slice (some ⟨b, off, none⟩) n cap := hold 12 (by kernel_rfl)
      have f13 : sl 13 = .int .i64 (n : Int) := hold 13 (by kernel_rfl)
      have f14 : sl 14 = .bool true := hold 14 (by kernel_rfl)
      have f15 : sl 15 = u15 := hold 15 (by kernel_rfl)
      have f16 : sl 16 = u16 := hold 16 (by kernel_rfl)
      have f17 : sl 17 = .slice (some ⟨b, off, none⟩) n cap := hnew 0 17 (by kernel_rfl)
      have f18 : sl 18 = .int .i64 (q : Int) := hnew 1 18 (by kernel_rfl)
      have f19 : sl 19 = .pointer (some ⟨b, off + q * 4, none⟩) := hnew 2 19 (by kernel_rfl)
      have f20 : sl 20 = .pointer (some ⟨b, off + q * 4, none⟩) := hnew 3 20 (by kernel_rfl)
      have f21 : sl 21 = .int .i64 xk := hnew 4 21 (by kernel_rfl)
      have f22 : sl 22 = .slice (some ⟨b', off', none⟩) n cap' := hnew 5 22 (by kernel_rfl)
      have f23 : sl 23 = .int .i64 (q : Int) := hnew 6 23 (by kernel_rfl)
      have f24 : sl 24 = .pointer (some ⟨b', off' + q * 4, none⟩) := hnew 7 24 (by kernel_rfl)
      have f25 : sl 25 = .pointer (some ⟨b', off' + q * 4, none⟩) := hnew 8 25 (by kernel_rfl)
      have f26 : sl 26 = .int .i64 xk := hnew 9 26 (by kernel_rfl)
      have f27 : sl 27 = .bool false := hnew 10 27 (by kernel_rfl)
      have f28 : sl 28 = .bool false := hnew 11 28 (by kernel_rfl)
      have f29 : sl 29 = .slice (some ⟨b, off, none⟩) n cap := hnew 12 29 (by kernel_rfl)
      have f30 : sl 30 = .int .i64 (q : Int) := hnew 13 30 (by kernel_rfl)
      have f31 : sl 31 = .pointer (some ⟨b, off + q * 4, none⟩) := hnew 14 31 (by kernel_rfl)
      have f32 : sl 32 = .pointer (some ⟨b, off + q * 4 + 1, none⟩) := hnew 15 32 (by kernel_rfl)
      have f33 : sl 33 = .string ⟨xs.toArray⟩ := hnew 16 33 (by kernel_rfl)
      have f34 : sl 34 = .slice (some ⟨b', off', none⟩) n cap' := hnew 17 34 (by kernel_rfl)
      have f35 : sl 35 = .int .i64 (q : Int) := hnew 18 35 (by kernel_rfl)
      have f36 : sl 36 = .pointer (some ⟨b', off' + q * 4, none⟩) := hnew 19 36 (by kernel_rfl)
      have f37 : sl 37 = .pointer (some ⟨b', off' + q * 4 + 1, none⟩) := hnew 20 37 (by kernel_rfl)
      have f38 : sl 38 = .string ⟨xs.toArray⟩ := hnew 21 38 (by kernel_rfl)
      have f39 : sl 39 = .bool false := hnew 22 39 (by kernel_rfl)
      have f40 : sl 40 = .bool false := hnew 23 40 (by kernel_rfl)
      have f41 : sl 41 = .bool false := hnew 24 41 (by kernel_rfl)
      have f42 : sl 42 = .slice (some ⟨b, off, none⟩) n cap := hnew 25 42 (by kernel_rfl)
      have f43 : sl 43 = .int .i64 (q : Int) := hnew 26 43 (by kernel_rfl)
      have f44 : sl 44 = .pointer (some ⟨b, off + q * 4, none⟩) := hnew 27 44 (by kernel_rfl)
      have f45 : sl 45 = .pointer (some ⟨b, off + q * 4 + 2, none⟩) := hnew 28 45 (by kernel_rfl)
      have f46 : sl 46 = .int .i64 xv := hnew 29 46 (by kernel_rfl)
      have f47 : sl 47 = .slice (some ⟨b', off', none⟩) n cap' := hnew 30 47 (by kernel_rfl)
      have f48 : sl 48 = .int .i64 (q : Int) := hnew 31 48 (by kernel_rfl)
      have f49 : sl 49 = .pointer (some ⟨b', off' + q * 4, none⟩) := hnew 32 49 (by kernel_rfl)
      have f50 : sl 50 = .pointer (some ⟨b', off' + q * 4 + 2, none⟩) := hnew 33 50 (by kernel_rfl)
      have f51 : sl 51 = .int .i64 xv := hnew 34 51 (by kernel_rfl)
      have f52 : sl 52 = .bool false := hnew 35 52 (by kernel_rfl)
      have f53 : sl 53 = .bool false := hnew 36 53 (by kernel_rfl)
      have f54 : sl 54 = .bool false := hnew 37 54 (by kernel_rfl)
      have f55 : sl 55 = .slice (some ⟨b, off, none⟩) n cap := hnew 38 55 (by kernel_rfl)
      have f56 : sl 56 = .int .i64 (q : Int) := hnew 39 56 (by kernel_rfl)
      have f57 : sl 57 = .pointer (some ⟨b, off + q * 4, none⟩) := hnew 40 57 (by kernel_rfl)
      have f58 : sl 58 = .pointer (some ⟨b, off + q * 4 + 3, none⟩) := hnew 41 58 (by kernel_rfl)
      have f59 : sl 59 = .slice xA xn xc := hnew 42 59 (by kernel_rfl)
      have f60 : sl 60 = .slice (some ⟨b', off', none⟩) n cap' := hnew 43 60 (by kernel_rfl)
      have f61 : sl 61 = .int .i64 (q : Int) := hnew 44 61 (by kernel_rfl)
      have f62 : sl 62 = .pointer (some ⟨b', off' + q * 4, none⟩) := hnew 45 62 (by kernel_rfl)
      have f63 : sl 63 = .pointer (some ⟨b', off' + q * 4 + 3, none⟩) := hnew 46 63 (by kernel_rfl)
      have f64 : sl 64 = .slice yA xn yc := hnew 47 64 (by kernel_rfl)
      have f65 : sl 65 = .bool true := hnew 48 65 (by kernel_rfl)
      have f66 : sl 66 = .bool false := hnew 49 66 (by kernel_rfl)
      have f67 : sl 67 = .bool false := hnew 50 67 (by kernel_rfl)
      change Exit.then _ _ .normal ⟨#[sl 0, sl 1, sl 2, sl 3, sl 4, sl 5, sl 6, sl 7, sl 8, sl 9, sl 10, sl 11, sl 12, sl 13, sl 14, sl 15, sl 16, sl 17, sl 18, sl 19, sl 20, sl 21, sl 22, sl 23, sl 24, sl 25, sl 26, sl 27, sl 28, sl 29, sl 30, sl 31, sl 32, sl 33, sl 34, sl 35, sl 36, sl 37, sl 38, sl 39, sl 40, sl 41, sl 42, sl 43, sl 44, sl 45, sl 46, sl 47, sl 48, sl 49, sl 50, sl 51, sl 52, sl 53, sl 54, sl 55, sl 56, sl 57, sl 58, sl 59, sl 60, sl 61, sl 62, sl 63, sl 64, sl 65, sl 66, sl 67], _⟩ _
      simp only [f0, f1, f2, f3, f4, f5, f6, f7, f8, f9, f10, f11, f12, f13, f14, f15, f16, f17, f18, f19, f20, f21, f22, f23, f24, f25, f26, f27, f28, f29, f30, f31, f32, f33, f34, f35, f36, f37, f38, f39, f40, f41, f42, f43, f44, f45, f46, f47, f48, f49, f50, f51, f52, f53, f54, f55, f56, f57, f58, f59, f60, f61, f62, f63, f64, f65, f66, f67]
      clear hold hnew
      go_wp2
      go_roundw
      case rel => exact ⟨q + 1, by omega, by go_num, hE.trans hEr⟩
      case measure => simp [intOf]; omega
    · obtain rfl : q = n := by omega
      go_wp2
      go_ret
      exact ⟨rfl, hE⟩
theorem keep_exprs (N : Nat) : ExAt N := by
  induction N using Nat.strongRecOn with
  | ind N ih => exact keep_exprs_step N ih
end Go.Proofs.Ytgiofdmedhhobaa
