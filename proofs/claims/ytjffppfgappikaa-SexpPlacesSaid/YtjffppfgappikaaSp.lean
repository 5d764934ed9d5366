/-
  The law's own function placed.
-/
import Derived.Test.YtjffppfgappikaaSo
namespace Go.Proofs.Ytjffppfgappikaa
open Go.RowKit
set_option linter.unusedVariables false

theorem tree_box (w : World) (m : M) : (w.alloc (.cells #[.int .i64 m.kind, .string ⟨m.s.toArray⟩, .int .i64 m.n, .slice m.A m.kids.length m.cap, .int .i64 (m.pos : Int)] 24)).heap[w.heap.size]? = some (.cells (mc m).toArray 24 (0, 0)) := heap_alloc_new _ _
theorem box_cells {w : World} {g : Nat} {m : M} (h : w.heap[g]? = some (.cells (mc m).toArray 24 (0, 0))) : w.cell? ⟨g, 0, none⟩ = some (.int .i64 m.kind) ∧ w.cell? ⟨g, 1, none⟩ = some (.string ⟨m.s.toArray⟩) ∧ w.cell? ⟨g, 2, none⟩ = some (.int .i64 m.n) ∧ w.cell? ⟨g, 3, none⟩ = some (.slice m.A m.kids.length m.cap) ∧ w.cell? ⟨g, 4, none⟩ = some (.int .i64 (m.pos : Int)) := by
  refine ⟨?_, ?_, ?_, ?_, ?_⟩ <;> (rw [Lib.cell_of_heap h]; rfl)
theorem box_ev {w w' : World} {g : Nat} {o : Obj} (h : w.heap[g]? = some o) (hE : Ev w w') : w'.heap[g]? = some o := by
  rw [hE.block g (Array.getElem?_eq_some_iff.1 h).1]; exact h

/-- What placed gives for a tree. -/
def PlacedAt (s0 : ByteArray) (m : M) (w : World) : Prop :=
  ∀ (w' : World), Ev w w' → ∀ (b e from_ to_ : Nat), Span s0.data.toList m.t b e → from_ ≤ b → e ≤ to_ → to_ ≤ s0.size →
    Calls Try.prog 7 #[.agg #[.int .i64 m.kind, .string ⟨m.s.toArray⟩, .int .i64 m.n, .slice m.A m.kids.length m.cap, .int .i64 (m.pos : Int)], .string s0, .int .i64 (from_ : Int), .int .i64 (to_ : Int)] w' fun r w'' => r = .returned (.bool true) ∧ Ev w' w''

theorem span_leaf {l : By} {m : M} {b e : Nat} (h : Span l m.t b e) (h1 : m.kind ≠ 1) : leafOk l m.kind m.s m.n b := by
  obtain ⟨k, s, n, A, c, ks, p⟩ := m
  simp only [M.t] at h
  generalize hks : M.ts ks = K at h
  cases h with
  | leaf g1 g2 g3 => exact g1
  | opn g1 g2 g3 g4 g5 g6 => exact absurd rfl h1
theorem span_open {l : By} {m : M} {b e : Nat} (h : Span l m.t b e) (h1 : m.kind = 1) : ∃ c e1, l[b]? = some c ∧ c.toNat = 40 ∧ Chain l (m.kids.map M.t) (b + 1) e1 ∧ e1 < e := by
  obtain ⟨k, s, n, A, c, ks, p⟩ := m
  simp only [M.t, M.ts_map] at h
  simp only [M.kind] at h1
  subst h1
  simp only [M.kids]
  generalize ks.map M.t = K at *
  cases h with
  | leaf g1 g2 g3 =>
    obtain ⟨c, _, g4⟩ := g1
    rcases g4 with ⟨g, _⟩ | ⟨g, _⟩ | ⟨g, _⟩ <;> cases g
  | opn g1 g2 g3 g4 g5 g6 => exact ⟨_, _, g1, g2, g3, g5⟩

set_option maxRecDepth 100000 in
set_option maxHeartbeats 4000000 in
theorem placed_any (s0 : ByteArray) (hs : s0.size ≤ 1000) {b0 : Nat} {K : List Nat} {w : World} {m : M} (h : Lies b0 K w m) : PlacedAt s0 m w := by
  have hll : s0.data.toList.length = s0.size := by rw [Array.length_toList]; rfl
  induction h with
  | @mk kind s n A cap kids pos hms hA hkl ih =>
    intro w' hE b e from_ to_ hsp hf ht hto
    obtain ⟨hpos, hbe, hel, c, hc⟩ := hsp.pos
    rw [M.t_pos] at hpos
    rw [hll] at hel
    have hb : b < s0.size := by omega
    have hat := sx_at s0 b hb
    rw [hc] at hat
    have hidx : ∀ hh, s0[b]'hh = c := fun hh => (Option.some.inj hat).symm
    simp only [M.kind, M.s, M.n, M.A, M.kids, M.cap, M.pos] at hpos ⊢
    obtain ⟨w0, hw0⟩ : ∃ w0, w0 = w'.alloc (.cells #[.int .i64 kind, .string ⟨s.toArray⟩, .int .i64 n, .slice A kids.length cap, .int .i64 (pos : Int)] 24) := ⟨_, rfl⟩
    have hbx : w0.heap[w'.heap.size]? = some (.cells (mc (.mk kind s n A cap kids pos)).toArray 24 (0, 0)) := by rw [hw0]; exact tree_box w' (.mk kind s n A cap kids pos)
    have hE0 : Ev w' w0 := by rw [hw0]; exact Ev.alloc _ _
    obtain ⟨c0, c1, c2, c3, c4⟩ := box_cells hbx
    simp only [M.kind, M.s, M.n, M.A, M.kids, M.cap, M.pos] at c0 c1 c2 c3 c4
    have hw0' := hw0.symm
    subst hpos
    clear hat hc
    have i1 : ¬ ((pos : Int) < (from_ : Int)) := by omega
    have i2 : ¬ ((to_ : Int) ≤ (pos : Int)) := by omega
    have i3 : (0 : Int) ≤ (pos : Int) := by omega
    have i4 : (pos : Int) < (s0.size : Int) := by omega
    have hpm : pos ≤ 1000 := by omega
    by_cases k1 : kind = 1
    · subst k1
      obtain ⟨c', e1, hc1, hc2, hch, he1⟩ := span_open hsp rfl
      simp only [M.kids] at hch
      obtain rfl : c' = c := by
        have := sx_at s0 pos hb
        rw [this] at hc1
        have h2 := hidx hb
        rw [← h2]
        exact (Option.some.inj hc1).symm
      have e40 : (c'.toNat : Int) = 40 := by omega
      obtain ⟨nk, hnk⟩ : ∃ nk, nk = kids.length := ⟨_, rfl⟩
      have hcapm := hms.max
      have hcap := hms.le
      rw [← hnk] at c3 hcap hw0' ⊢
      have HNK := Lib.hid hnk
      have HCH := Lib.hid hch
      have HIH := Lib.hid ih
      have HMS := Lib.hid hms
      clear hms ih hch hsp hc1 hc2 hkl hA hw0 hnk
      go_enter Try.func7, Try.ntmps7
      go_wp2
      go_loopw [10, 11] (fun av iv wr => ∃ (q a : Nat), q ≤ nk ∧ iv = .int .i64 (q : Int) ∧ av = .int .i64 (a : Int) ∧ Hid (∀ t : M, kids[q]? = some t → a ≤ t.pos) ∧ Ev w0 wr) (fun _ iv _ => nk - (intOf iv).toNat)
      case atStart =>
        refine ⟨0, pos + 1, Nat.zero_le _, rfl, by go_num, Lib.hid fun t ht => ?_, Ev.refl _⟩
        obtain ⟨te, _, g2, _, _⟩ := HCH.out.at 0 t.t (by rw [List.getElem?_map, ht]; rfl)
        rwa [M.t_pos] at g2
      case round =>
        obtain ⟨q, a, hq, rfl, rfl, HA, hE1⟩ := hrel
        obtain ⟨c0', c1', c2', c3', c4'⟩ := box_cells (box_ev hbx hE1)
        simp only [M.kind, M.s, M.n, M.A, M.kids, M.cap, M.pos] at c0' c1' c2' c3' c4'
        rw [← HNK.out] at c3'
        by_cases hlt : q < nk
        · obtain ⟨x, hx⟩ : ∃ x, kids[q]? = some x := ⟨_, List.getElem?_eq_getElem (by rw [← HNK.out]; exact hlt)⟩
          have hmr : Ms wr A kids.length cap kids := HMS.out.ev ((hE.trans hE0).trans hE1)
          obtain ⟨b, off, hAA, hbl, d0, d1, d2, d3, d4⟩ := hmr.cell hx
          obtain ⟨te, g1, g2, g3, g4⟩ := HCH.out.at q x.t (by rw [List.getElem?_map, hx]; rfl)
          rw [M.t_pos] at g1 g2
          have hgp := g1.pos
          have hal := HA.out x hx
          have hxm : x ∈ kids := List.mem_of_getElem? hx
          unfold M.kv at d3
          have hnx : Hid (∀ t : M, kids[q + 1]? = some t → x.pos + 1 ≤ t.pos) := Lib.hid fun t ht => by
            obtain ⟨g5, _⟩ := g4 t.t (by rw [List.getElem?_map, ht]; rfl)
            rw [M.t_pos] at g5
            omega
          have hxp : x.pos ≤ 1000 := by omega
          have j1 : (0 : Int) ≤ (q : Int) := by omega
          have j2 : (q : Int) < (nk : Int) := by omega
          rw [hAA] at c3'
          have HAA := Lib.hid hAA
          by_cases hl2 : q + 1 < nk
          · obtain ⟨y, hy⟩ : ∃ y, kids[q + 1]? = some y := ⟨_, List.getElem?_eq_getElem (by rw [← HNK.out]; exact hl2)⟩
            obtain ⟨b2, off2, hA2, _, _, _, _, _, f4⟩ := hmr.cell hy
            rw [hAA] at hA2
            injection hA2 with hA2
            injection hA2 with hA2 hA3 _
            subst hA2
            subst hA3
            obtain ⟨g5, g6⟩ := g4 y.t (by rw [List.getElem?_map, hy]; rfl)
            rw [M.t_pos] at g5 g6
            have HP := Lib.hid (HIH.out x hxm wr ((hE.trans hE0).trans hE1) _ te a y.pos g1 hal g5 (by omega))
            have hyp : ¬ ((to_ : Int) < (y.pos : Int)) := by omega
            have j3 : (q : Int) + 1 < (nk : Int) := by omega
            have j4 : (0 : Int) ≤ (q : Int) + 1 := by omega
            clear hmr g1 g2 g3 g4 hgp hal hxm hx hy g5 g6 hAA
            go_wp2_with (first | ((with_reducible refine (HP.out).mono ?_); rintro r w9 ⟨rfl, hE9⟩; obtain ⟨c0'', c1'', c2'', c3'', c4''⟩ := box_cells (box_ev hbx (hE1.trans hE9)); simp only [M.kind, M.s, M.n, M.A, M.kids, M.cap, M.pos] at c0'' c1'' c2'' c3'' c4''; rw [← HNK.out, HAA.out] at c3''; have d4'' := (hE9.cell (p := ⟨b, off + q * 5 + 4, none⟩) hbl).trans d4))
            go_roundw
            case rel => exact ⟨q + 1, x.pos + 1, by omega, by go_num, by go_num, hnx, hE1.trans hE9⟩
            case measure => simp [intOf]; omega
          · have hle : te ≤ to_ := by omega
            have HP := Lib.hid (HIH.out x hxm wr ((hE.trans hE0).trans hE1) _ te a to_ g1 hal hle hto)
            have j3 : ¬ ((q : Int) + 1 < (nk : Int)) := by omega
            clear hmr g1 g2 g3 g4 hgp hal hxm hx hAA hle
            go_wp2_with (first | ((with_reducible refine (HP.out).mono ?_); rintro r w9 ⟨rfl, hE9⟩; obtain ⟨c0'', c1'', c2'', c3'', c4''⟩ := box_cells (box_ev hbx (hE1.trans hE9)); simp only [M.kind, M.s, M.n, M.A, M.kids, M.cap, M.pos] at c0'' c1'' c2'' c3'' c4''; rw [← HNK.out, HAA.out] at c3''; have d4'' := (hE9.cell (p := ⟨b, off + q * 5 + 4, none⟩) hbl).trans d4))
            go_roundw
            case rel => exact ⟨q + 1, x.pos + 1, by omega, by go_num, by go_num, hnx, hE1.trans hE9⟩
            case measure => simp [intOf]; omega
        · obtain rfl : q = nk := by omega
          go_wp2
          go_ret
          exact ⟨rfl, hE0.trans hE1⟩
    · have hlf := span_leaf hsp k1
      simp only [M.kind, M.s, M.n] at hlf
      obtain ⟨c', hc1, hkk⟩ := hlf
      obtain rfl : c' = c := by
        have := sx_at s0 pos hb
        rw [this] at hc1
        have h2 := hidx hb
        rw [← h2]
        exact (Option.some.inj hc1).symm
      clear hsp hc1 hbx hms ih hkl hA hw0 k1
      generalize kids.length = nk at *
      rcases hkk with ⟨rfl, l1, l2, q, hq⟩ | ⟨rfl, hn⟩ | ⟨rfl, h34⟩
      · subst hq
        have hS0 : ∀ hh, (⟨(c' :: q).toArray⟩ : ByteArray)[0]'hh = c' := fun _ => rfl
        have hSz : 0 < (⟨(c' :: q).toArray⟩ : ByteArray).size := Nat.succ_pos _
        generalize (⟨(c' :: q).toArray⟩ : ByteArray) = S at *
        have e1 : (97 : Int) ≤ (c'.toNat : Int) := by omega
        have e2 : (c'.toNat : Int) ≤ 122 := by omega
        have e3 : (0 : Int) < (S.size : Int) := by omega
        go_enter Try.func7, Try.ntmps7
        go_wp2
        go_ret
        exact ⟨rfl, hE0⟩
      · rcases hn with ⟨h45, hn0⟩ | ⟨l1, l2, hn0⟩
        · have e1 : (c'.toNat : Int) = 45 := by omega
          go_enter Try.func7, Try.ntmps7
          go_wp2
          go_ret
          exact ⟨rfl, hE0⟩
        · have e1 : ¬ ((c'.toNat : Int) = 45) := by omega
          have e1' : ((c'.toNat : Int) == 45) = false := beq_eq_false_iff_ne.2 e1
          have e2 : (48 : Int) ≤ (c'.toNat : Int) := by omega
          have e3 : (c'.toNat : Int) ≤ 57 := by omega
          go_enter Try.func7, Try.ntmps7
          go_wp2
          go_ret
          exact ⟨rfl, hE0⟩
      · have e1 : (c'.toNat : Int) = 34 := by omega
        go_enter Try.func7, Try.ntmps7
        go_wp2
        go_ret
        exact ⟨rfl, hE0⟩
end Go.Proofs.Ytjffppfgappikaa
