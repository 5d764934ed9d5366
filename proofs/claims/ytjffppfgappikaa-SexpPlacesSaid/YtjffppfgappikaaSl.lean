/-
  Package sexp: Read.
-/
import Derived.Test.YtjffppfgappikaaSk
namespace Go.Proofs.Ytjffppfgappikaa
open Go.RowKit
set_option linter.unusedVariables false

theorem sxPut_len : ∀ (os : List T) (t : T), (sxPut os t).length = os.length
  | [], t => rfl
  | [e], t => rfl
  | e :: e' :: os, t => by
    have := sxPut_len (e' :: os) t
    unfold sxPut
    simp only [List.length_cons] at this ⊢
    omega
theorem T.add_kids (e t : T) : (e.add t).kids = e.kids ++ [t] := rfl
theorem sxPut_kids : ∀ (os : List T) (t : T) (i : Nat), (∀ e ∈ os, e.kids.length ≤ i) → ∀ e ∈ sxPut os t, e.kids.length ≤ i + 1
  | [], t, i, h => fun e he => by cases he
  | [a], t, i, h => fun e he => by
    simp [sxPut] at he
    subst he
    rw [T.add_kids]
    have := h a (by simp)
    simp
    omega
  | a :: b :: os, t, i, h => fun e he => by
    unfold sxPut at he
    rcases List.mem_cons.1 he with rfl | he
    · have := h e (by simp); omega
    · exact sxPut_kids (b :: os) t i (fun x hx => h x (List.mem_cons_of_mem _ hx)) e he
theorem sxTake_len (os : List T) (t : T) : (sxTake os t).length ≤ os.length + 1 := by
  unfold sxTake
  split
  · simp
  · split
    · cases h : os.getLast? with
      | none => simp
      | some e => simp only [sxPut_len, List.length_dropLast]; omega
    · rw [sxPut_len]; omega
theorem sxTake_kids (os : List T) (t : T) (i : Nat) (h : ∀ e ∈ os, e.kids.length ≤ i) (ht : t.kids = []) : ∀ e ∈ sxTake os t, e.kids.length ≤ i + 1 := by
  unfold sxTake
  split
  · intro e he
    rcases List.mem_append.1 he with h1 | h1
    · have := h e h1; omega
    · simp at h1
      subst h1
      rw [ht]; simp
  · split
    · cases hl : os.getLast? with
      | none => exact fun e he => by have := h e he; omega
      | some e0 =>
        exact sxPut_kids _ _ i (fun x hx => h x (List.dropLast_subset _ hx))
    · exact sxPut_kids _ _ i h

/-- The result's box. -/
structure TrBox (g : Nat) (w : World) : Prop where
  blk : w.heap[g]? = some (.cells (mraw 0 0 0 ⟨#[]⟩ (.slice none 0 0)) 24 (0, 0))
theorem TrBox.but {K : List Nat} {g : Nat} {w w' : World} (h : TrBox g w) (hb : But K w w') (hn : g ∉ K) : TrBox g w' := ⟨hb.heap h.blk hn⟩
theorem TrBox.ev {g : Nat} {w w' : World} (h : TrBox g w) (hE : Ev w w') : TrBox g w' := h.but (But.of_ev (K := []) hE) (by simp)
theorem TrBox.cs {g : Nat} {w : World} (h : TrBox g w) : w.cell? ⟨g, 0, none⟩ = some (.int .i64 0) ∧ w.cell? ⟨g, 1, none⟩ = some (.string ⟨#[]⟩) ∧ w.cell? ⟨g, 2, none⟩ = some (.int .i64 0) ∧ w.cell? ⟨g, 3, none⟩ = some (.slice none 0 0) ∧ w.cell? ⟨g, 4, none⟩ = some (.int .i64 0) ∧
    w.frozen? ⟨g, 0, none⟩ = false ∧ w.frozen? ⟨g, 1, none⟩ = false ∧ w.frozen? ⟨g, 2, none⟩ = false ∧ w.frozen? ⟨g, 3, none⟩ = false ∧ w.frozen? ⟨g, 4, none⟩ = false := by
  refine ⟨?_, ?_, ?_, ?_, ?_, Lib.frozen_of_heap h.blk 0, Lib.frozen_of_heap h.blk 1, Lib.frozen_of_heap h.blk 2, Lib.frozen_of_heap h.blk 3, Lib.frozen_of_heap h.blk 4⟩ <;> (rw [Lib.cell_of_heap h.blk]; rfl)
def trSet (g : Nat) (k n p : Int) (s : ByteArray) (v : Value) (w : World) : World :=
  ((((w.setCell ⟨g, 0, none⟩ (.int .i64 k)).setCell ⟨g, 1, none⟩ (.string s)).setCell ⟨g, 2, none⟩ (.int .i64 n)).setCell ⟨g, 3, none⟩ v).setCell ⟨g, 4, none⟩ (.int .i64 p)
theorem trSet_fold (g : Nat) (k n p : Int) (s : ByteArray) (v : Value) (w : World) :
  ((((w.setCell ⟨g, 0, none⟩ (.int .i64 k)).setCell ⟨g, 1, none⟩ (.string s)).setCell ⟨g, 2, none⟩ (.int .i64 n)).setCell ⟨g, 3, none⟩ v).setCell ⟨g, 4, none⟩ (.int .i64 p) = trSet g k n p s v w := rfl
theorem trSet_but (g : Nat) (k n p : Int) (s : ByteArray) (v : Value) (w : World) : But [g] w (trSet g k n p s v w) :=
  ((((But.setCell ⟨g, 0, none⟩ _ (by simp)).then (But.setCell ⟨g, 1, none⟩ _ (by simp))).then (But.setCell ⟨g, 2, none⟩ _ (by simp))).then (But.setCell ⟨g, 3, none⟩ _ (by simp))).then (But.setCell ⟨g, 4, none⟩ _ (by simp))
theorem TrBox.set {g : Nat} {w : World} (h : TrBox g w) (k n p : Int) (s : ByteArray) (v : Value) : (trSet g k n p s v w).heap[g]? = some (.cells (mraw k n p s v) 24 (0, 0)) := by
  have := set_heap 4 (.int .i64 p) (set_heap 3 v (set_heap 2 (.int .i64 n) (set_heap 1 (.string s) (set_heap 0 (.int .i64 k) h.blk))))
  rwa [show (((((mraw 0 0 0 ⟨#[]⟩ (.slice none 0 0)).setIfInBounds 0 (.int .i64 k)).setIfInBounds 1 (.string s)).setIfInBounds 2 (.int .i64 n)).setIfInBounds 3 v).setIfInBounds 4 (.int .i64 p) = mraw k n p s v by simp [mraw]] at this
theorem tr_done {w1 : World} {g : Nat} {fn : Func} {p u1 u2 : Tmp} (tmps : Array Value) (h : TrBox g w1) (k n q : Int) (s : ByteArray) (v : Value) (hf : fn.results = #[.cell p 24, .tmp u1, .tmp u2]) (hp : tmps.getD p undef = .pointer (some ⟨g, 0, none⟩)) :
    (results fn tmps).run Try.prog (trSet g k n q s v w1) = .ok (.tuple #[.agg (mraw k n q s v), tmps.getD u1 undef, tmps.getD u2 undef]) (trSet g k n q s v w1) :=
  ret_tree2 hf tmps _ g k n q s v hp (h.set k n q s v)

/-- In the midst of reading. -/
structure RdSt (w0 : World) (v : Value) (os : List M) (i : Nat) (w : World) : Prop where
  opn : Opn (w0.heap.size + 1) w v os
  ev : Ev w0 w
  box : TrBox w0.heap.size w
  some_ : os ≠ []
  few : os.length ≤ i + 1
  kids : ∀ e ∈ os, e.kids.length ≤ i
theorem RdSt.evs {w0 w w' : World} {v : Value} {os : List M} {i : Nat} (h : RdSt w0 v os i w) (hE : Ev w w') : RdSt w0 v os i w' :=
  ⟨h.opn.ev hE, h.ev.trans hE, h.box.ev hE, h.some_, h.few, h.kids⟩
theorem RdSt.high {w0 w : World} {v : Value} {os : List M} {i : Nat} (h : RdSt w0 v os i w) : ∀ x ∈ blk v os, w0.heap.size < x := fun x hx => by have := (h.opn.range hx).1; omega
theorem RdSt.next {w0 w w' : World} {v v' : Value} {os os' : List M} {i i' : Nat} {t : T} (h : RdSt w0 v os i w) (ho : Opn (w0.heap.size + 1) w' v' os') (hm : os'.map M.t = sxTake (os.map M.t) t) (ht : t.kids = []) (hn : os' ≠ []) (hb : But (blk v os) w w') (hi : i < i') : RdSt w0 v' os' i' w' := by
  refine ⟨ho, ((But.of_ev (K := blk v os) h.ev).then hb).ev fun k hk => by have := h.high k hk; omega, h.box.but hb fun hk => by have := h.high _ hk; omega, hn, ?_, fun e he => ?_⟩
  · have h1 := sxTake_len (os.map M.t) t
    rw [← hm, List.length_map, List.length_map] at h1
    have := h.few
    omega
  · have h1 := sxTake_kids (os.map M.t) t i (fun e he => by
      obtain ⟨m, hm', rfl⟩ := List.mem_map.1 he
      rw [M.t_kids, List.length_map]
      exact h.kids m hm') ht e.t (by rw [← hm]; exact List.mem_map.2 ⟨e, he, rfl⟩)
    rw [M.t_kids, List.length_map] at h1
    omega

theorem take_cell {K : List Nat} {w4 w6 : World} {gx : Nat} {j v : Value} (hb : But K (w4.setCell ⟨gx, 4, none⟩ j) w6) (hx : gx ∉ K) (hlt : gx < w4.heap.size) (c : w4.cell? ⟨gx, 5, none⟩ = some v) : w6.cell? ⟨gx, 5, none⟩ = some v := by
  rw [World.cell?_of_block (w := w4.setCell ⟨gx, 4, none⟩ j) (hb.block gx (by simpa [World.setCell] using hlt) hx)]
  have h2 : (w4.setCell ⟨gx, 4, none⟩ j).cell? ⟨gx, 5, none⟩ = w4.cell? ⟨gx, 5, none⟩ := World.cell?_setCell_other _ _ _ _ (by simp)
  exact h2.trans c
theorem Opn.init (w : World) : Opn (w.heap.size + 1) ((w.alloc (.cells #[.int .i64 0, .string ⟨#[]⟩, .int .i64 0, .slice none 0 0, .int .i64 0] 24)).alloc (.cells #[.int .i64 0, .string ⟨#[]⟩, .int .i64 0, .slice none 0 0, .int .i64 0] 24)) (.slice (some ⟨w.heap.size + 1, 0, none⟩) 1 1) [mzero] := by
  refine ⟨⟨rfl, .inr ⟨w.heap.size + 1, 1, _, rfl, Nat.le_refl _, heap_alloc2_new w _ _, Nat.le_refl _, by decide, rfl, rfl⟩⟩, fun e he => ?_, ?_, fun e he m hm => ?_⟩
  · simp at he
    subst he
    exact World.ownsRow_nil _ _ _ _
  · simp [blk, foot, Value.ownBlock, mzero, M.kv, M.A]
  · simp at he
    subst he
    cases hm

/-- What Read gives. -/
def ReadOut (R : Res) (w : World) (e : Ending) (w' : World) : Prop :=
  ∃ m : M, e = .returned (.tuple #[.agg #[.int .i64 m.kind, .string ⟨m.s.toArray⟩, .int .i64 m.n, .slice m.A m.kids.length m.cap, .int .i64 (m.pos : Int)], .int .i64 R.2.1, .int .i64 (R.2.2 : Int)]) ∧ m.t = R.1 ∧ Lies w.heap.size [] w' m ∧ Ev w w'

set_option maxRecDepth 100000 in
set_option maxHeartbeats 4000000 in
theorem sx_read (s0 : ByteArray) (w : World) (hs : s0.size ≤ 100000) :
    Calls Try.prog 5 #[.string s0] w (ReadOut (sxRead s0.data.toList) w) := by
  have hll : s0.data.toList.length = s0.size := by rw [Array.length_toList]; rfl
  have HL := Lib.hid hll
  obtain ⟨R, hR⟩ : ∃ R, R = sxRead s0.data.toList := ⟨_, rfl⟩
  rw [← hR]
  unfold sxRead at hR
  rw [hll] at hR
  have HR := Lib.hid hR
  clear hR hll
  go_enter Try.func5, Try.ntmps5
  go_wp2
  refine wp_scope_once 0 60 (fun s w2 => s 0 = .string s0 ∧ s 2 = .pointer (some ⟨w.heap.size, 0, none⟩) ∧ ∃ (v : Value) (os : List M) (i f : Nat), s 5 = v ∧ s 6 = .int .i64 (i : Int) ∧ i ≤ s0.size ∧ s0.size - i < f ∧ RdSt w v os i w2 ∧ Hid (R = sxGo f (os.map M.t) (s0.data.toList.drop i) i)) (fun s _ => s0.size - (intOf (s 6)).toNat) rfl ?_ ?_
  · rintro s w2 ⟨h0, h2, v, os, i, f, h5, h6, hi, hf, ST, HT⟩
    change Code.wp _ _ _ ⟨#[s 0, s 1, s 2, s 3, s 4, s 5, s 6, s 7, s 8, s 9, s 10, s 11, s 12, s 13, s 14, s 15, s 16, s 17, s 18, s 19, s 20, s 21, s 22, s 23, s 24, s 25, s 26, s 27, s 28, s 29, s 30, s 31, s 32, s 33, s 34, s 35, s 36, s 37, s 38, s 39, s 40, s 41, s 42, s 43, s 44, s 45, s 46, s 47, s 48, s 49, s 50, s 51, s 52, s 53, s 54, s 55, s 56, s 57, s 58, s 59], []⟩ _
    simp only [h0, h2, h5, h6]
    clear h0 h2 h5
    obtain ⟨f, rfl⟩ : ∃ f', f = f' + 1 := ⟨f - 1, by omega⟩
    obtain ⟨r, hr⟩ : ∃ r : ByteArray, r = s0.extract i s0.size := ⟨_, rfl⟩
    have hx : s0.extract i s0.size = r := hr.symm
    have hrl : r.data.toList = s0.data.toList.drop i := by rw [hr, Lib.extract_eq, List.take_of_length_le (by rw [List.length_drop, HL.out]; exact Nat.le_refl _)]
    have hrz : r.size = s0.size - i := by
      have : r.data.toList.length = r.size := by rw [Array.length_toList]; rfl
      rw [← this, hrl, List.length_drop, HL.out]
    have HB := Lib.hid (fun w1 => sx_run_isBlank r w1 (by omega))
    rw [hrl] at HB
    have hple := sxRun_le sxBlank (s0.data.toList.drop i)
    rw [List.length_drop, HL.out] at hple
    have HGO := HT.out
    unfold sxGo at HGO
    rw [List.drop_drop] at HGO
    generalize hp : sxRun sxBlank (s0.data.toList.drop i) = p at *
    have HG := Lib.hid HGO
    clear hr hrl hp HT HGO hrz
    go_upto_region 6 with (first
      | ((with_reducible refine (HB.out _).mono ?_); rintro e w3 ⟨rfl, rfl⟩))
    have e1 : (i : Int) + (p : Int) = ((i + p : Nat) : Int) := by omega
    simp only [e1]
    have hj : i + p ≤ s0.size := by omega
    have hij : i ≤ i + p := by omega
    generalize i + p = j at *
    clear HB e1 hx
    by_cases hjz : j = s0.size
    · have HSP : Hid (R = sxWhole (os.map M.t) s0.size) := Lib.hid (by
        rw [HG.out, List.drop_of_length_le (by rw [HL.out]; omega), hjz])
      have e2 : (j : Int) = (s0.size : Int) := by omega
      have HW := fun w1 (h1 : Opn (w.heap.size + 1) w1 v os) => sx_whole w1 h1 ST.some_ s0.size
      unfold mv M.kv at HW
      have HW := Lib.hid HW
      clear HG hjz
      go_wp2_with (first
        | ((with_reducible refine (HW.out _ ST.opn).mono ?_); rintro e w3 ⟨m, rfl, hmt, hml, hE3⟩; have B4 := (ST.evs hE3).box; have E4 := (ST.evs hE3).ev; obtain ⟨c0, c1, c2, c3, c4, f0, f1, f2, f3, f4⟩ := B4.cs))
      simp only [Exit.jump]
      rw [trSet_fold]
      refine bodyPost_ret (tr_done _ B4 _ _ _ _ _ rfl rfl) rfl ?_
      refine ⟨m, ?_, by rw [HSP.out]; exact hmt, ?_, E4.over1 (trSet_but _ _ _ _ _ _ _) (Nat.le_refl _)⟩
      · rw [HSP.out]; rfl
      · exact ((hml.less (K' := [w.heap.size]) (fun x hx => by simp at hx; exact .inr (.inl (by omega)))).move (trSet_but _ _ _ _ _ _ _) (K' := []) (fun x hx => by cases hx)).low (Nat.le_succ _)
    · have hlt : j < s0.size := by omega
      have hat := sx_at s0 j hlt
      obtain ⟨c, hc⟩ : ∃ c, s0[j] = c := ⟨_, rfl⟩
      rw [hc] at hat
      have hdr := sx_drop_cons _ _ _ hat
      obtain ⟨q, hq⟩ : ∃ q, q = s0.data.toList.drop (j + 1) := ⟨_, rfl⟩
      rw [← hq] at hdr
      have hql : (c :: q).length = s0.size - j := by rw [← hdr, List.length_drop, HL.out]
      have HG2 := HG.out
      rw [hdr] at HG2
      simp only [] at HG2
      have hok := sxScan_ok c q
      have hjo := fun h => sxJudge_ok (os := os.map M.t) hok h
      have hjf := fun h => sxJudge_fault (os := os.map M.t) hok h
      rw [List.length_map] at hjo
      have e2 : ¬ ((j : Int) = (s0.size : Int)) := by omega
      have e2' : ((j : Int) == (s0.size : Int)) = false := beq_eq_false_iff_ne.2 e2
      obtain ⟨y, hy⟩ : ∃ y : ByteArray, y = s0.extract j s0.size := ⟨_, rfl⟩
      have hxy : s0.extract j s0.size = y := hy.symm
      have hyl : y.data.toList = c :: q := by rw [hy, Lib.extract_eq, List.take_of_length_le (by rw [List.length_drop, HL.out]; exact Nat.le_refl _), hdr]
      have hyz : y.size = s0.size - j := by
        have : y.data.toList.length = y.size := by rw [Array.length_toList]; rfl
        rw [← this, hyl, hql]
      have HS := fun w1 => sx_scan y w1 (by omega) (by omega)
      rw [hyl] at HS
      have HJ := fun w1 (h1 : Opn (w.heap.size + 1) w1 v os) => sx_judge w1 h1 ST.some_ (sxScan (c :: q))
      generalize hX : sxScan (c :: q) = X at *
      generalize hJ : sxJudge (os.map M.t) X = J at *
      obtain ⟨k, xs, n, z, yy, ff⟩ := X
      obtain ⟨jw, jf⟩ := J
      simp only [tkv, tkc] at HS HJ HG2 hjo hjf
      have HS := Lib.hid HS
      have HJ := Lib.hid (fun w1 (hE : Ev w2 w1) => HJ w1 (ST.opn.ev hE))
      have HG3 := Lib.hid HG2
      have HQ := Lib.hid hq
      have HQL := Lib.hid hql
      have HDR := Lib.hid hdr
      have hok0 := hok.good
      simp only at hok0
      have HOK := Lib.hid hok0
      have HJO := Lib.hid hjo
      have HJF := Lib.hid hjf
      clear hc hat hdr hq hql HG HG2 hok hjo hjf hy hyl hJ hX hok0
      by_cases hw : jw = 0
      · subst hw
        obtain ⟨hyy, hk2, _, _⟩ := HJO.out rfl
        subst hyy
        obtain ⟨hz1, hz2, _⟩ := HOK.out rfl
        rw [HQL.out] at hz2
        have HSP : Hid (R = sxGo f (sxTake (os.map M.t) (mtok k xs n j).t) (s0.data.toList.drop (j + z)) (j + z)) := Lib.hid (by
          rw [HG3.out]
          simp only [beq_self_eq_true, if_true]
          rw [← HDR.out, List.drop_drop]
          rfl)
        have HT := fun w1 (hE : Ev w2 w1) => sx_take w1 (ST.opn.ev hE) ST.some_ k xs n j (fun h => by
          have := hk2 h
          have h0 := ST.some_
          cases hos : os with
          | nil => exact absurd hos h0
          | cons a l =>
            cases l with
            | nil => rw [hos] at this; exact absurd rfl this
            | cons b l => simp) (by have := ST.few; omega) (fun e he => by have := ST.kids e he; omega)
        rw [show mv (mtok k xs n j) = .agg #[.int .i64 k, .string ⟨xs.toArray⟩, .int .i64 n, .slice none 0 0, .int .i64 (j : Int)] from rfl] at HT
        have HT := Lib.hid HT
        have i1 : Hid ((j : Int) + (z : Int) = ((j + z : Nat) : Int)) := Lib.hid (by omega)
        have hjz2 : j + z ≤ s0.size := by omega
        clear HG3 HDR HQ HQL HOK HJO HJF hk2 hz2
        go_wp2_with (first
          | ((with_reducible refine (HS.out _).mono ?_); rintro e w3 ⟨rfl, hE3⟩)
          | ((with_reducible refine (HJ.out _ (hE3.trans (Ev.alloc _ _))).mono ?_); rintro e w4 ⟨rfl, hE4⟩; have X4 := (TkBox.new ⟨k, xs, n, z, 0, ff⟩ w3).ev hE4; obtain ⟨c0, c1, c2, c3, c4, c5, c6, c7⟩ := X4.cs; have f4 := X4.f 4; simp only at c0 c1 c2 c5; have hE5 : Ev w2 (w4.setCell ⟨w3.heap.size, 4, none⟩ (.int .i64 (j : Int))) := Ev.over1 (g := w3.heap.size) ((hE3.trans (Ev.alloc _ _)).trans hE4) (But.setCell _ _ (by simp)) hE3.size)
          | ((with_reducible refine (HT.out _ hE5).mono ?_); rintro e w6 ⟨v', os', rfl, ho', hmap', hne', hb', hs'⟩; have hgx : w3.heap.size ∉ blk v os := (fun hm => by have := (ST.opn.range hm).2; have := hE3.size; omega); have d5 : w6.cell? ⟨w3.heap.size, 5, none⟩ = some (.int .i64 (z : Int)) := take_cell hb' hgx X4.lt c5))
        go_step3
        refine ⟨rfl, ⟨rfl, rfl, rfl, rfl, v', os', j + z, f, rfl, ?_, hjz2, by omega, ?_, ?_⟩, ?_⟩
        · rw [← i1.out]; rfl
        · exact (ST.evs hE5).next ho' hmap' rfl hne' hb' (by omega)
        · rw [hmap']; exact HSP
        · simp [Act.eval, intOf]
          omega
      · have hw' : (jw == 0) = false := beq_eq_false_iff_ne.2 hw
        have hw'' : (jw != 0) = true := bne_iff_ne.2 hw
        have hjf2 := HJF.out hw
        rw [HQL.out] at hjf2
        have HSP : Hid (R = (sxZero, jw, j + jf)) := Lib.hid (by
          rw [HG3.out]
          simp only [hw', Bool.false_eq_true, if_false])
        have i2 : Hid ((j : Int) + (jf : Int) = ((j + jf : Nat) : Int)) := Lib.hid (by omega)
        have i3 : j + jf ≤ s0.size := by omega
        clear HG3 HDR HQ HQL HOK HJO HJF
        go_wp2_with (first
          | ((with_reducible refine (HS.out _).mono ?_); rintro e w3 ⟨rfl, hE3⟩)
          | ((with_reducible refine (HJ.out _ (hE3.trans (Ev.alloc _ _))).mono ?_); rintro e w4 ⟨rfl, hE4⟩; have X4 := (TkBox.new ⟨k, xs, n, z, yy, ff⟩ w3).ev hE4; have B4 := (ST.evs ((hE3.trans (Ev.alloc _ _)).trans hE4)).box; have E4 := (ST.evs ((hE3.trans (Ev.alloc _ _)).trans hE4)).ev; obtain ⟨c0, c1, c2, c3, c4, f0, f1, f2, f3, f4⟩ := B4.cs))
        simp only [Exit.jump]
        rw [trSet_fold]
        refine bodyPost_ret (tr_done _ B4 _ _ _ _ _ rfl rfl) rfl ?_
        refine ⟨mzero, ?_, by rw [HSP.out]; rfl, Lies.zero _ _ _, E4.over1 (trSet_but _ _ _ _ _ _ _) (Nat.le_refl _)⟩
        rw [HSP.out, ← i2.out]
        rfl
  · intro H
    by_cases hbig : 600 < s0.size
    · have HSP : Hid (R = (sxZero, 3, 0)) := Lib.hid (by rw [HR.out, if_pos hbig])
      have e1 : (600 : Int) < (s0.size : Int) := by omega
      go_wp2
      try simp only [Exit.jump]
      refine bodyPost_ret (ret_tree2 rfl _ _ w.heap.size 0 0 0 ⟨#[]⟩ (.slice none 0 0) rfl (heap_alloc_new w _)) rfl ?_
      refine ⟨mzero, ?_, by rw [HSP.out]; rfl, Lies.zero _ _ _, Ev.alloc _ _⟩
      rw [HSP.out]
      rfl
    · have HSP : Hid (R = sxGo (s0.size + 1) [sxZero] s0.data.toList 0) := Lib.hid (by rw [HR.out, if_neg hbig])
      have e1 : ¬ ((600 : Int) < (s0.size : Int)) := by omega
      go_wp2
      go_step3
      rename_i hK
      refine hK _ _ (H _ _ ?_ ?_ ?_)
      · rfl
      · rfl
      refine ⟨rfl, rfl, _, [mzero], 0, s0.size + 1, rfl, rfl, Nat.zero_le _, by omega, ⟨Opn.init w, (Ev.alloc _ _).trans (Ev.alloc _ _), ⟨?_⟩, by simp, by simp, fun e he => ?_⟩, HSP⟩
      · exact heap_alloc2_old w _ _
      · simp at he
        rw [he]
        exact Nat.le_refl _
end Go.Proofs.Ytjffppfgappikaa
