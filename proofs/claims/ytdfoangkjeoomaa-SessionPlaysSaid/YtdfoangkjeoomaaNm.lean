/-
  The walk of SessionPlays.
-/
import Derived.Test.YtdfoangkjeoomaaNl
import Derived.Test.YtdfoangkjeoomaaNo
import Derived.Test.YtdfoangkjeoomaaRegionC
namespace Go.Proofs.Ytdfoangkjeoomaa
open Go.RowKit
set_option linter.unusedVariables false
set_option maxRecDepth 100000

theorem ref_ask_known (p : Nat) (T : List RQ) (x s k r0 r1 : Int) (r2 : ByteArray) (h : askK T x s = k ∧ askR T x s = (r0, r1, r2)) (w : World) (hT : RtAt p T w) :
    Calls Try.prog 14 #[.pointer (some ⟨p, 0, none⟩), .int .i64 x, .int .i64 s] w fun e w' => e = .returned (.tuple #[.int .i64 k, .agg #[.int .i64 r0, .int .i64 r1, .string r2]]) ∧ Ev w w' := by
  have C := ref_ask p T x s w hT
  rw [h.1, h.2] at C
  exact C
theorem ref_done_known (p : Nat) (T T' : List RQ) (x s k r0 r1 : Int) (r2 : ByteArray) (h : doneE T x s = k ∧ doneT T x s (r0, r1, r2) = T') (w : World) (hT : RtAt p T w) :
    Calls Try.prog 15 #[.pointer (some ⟨p, 0, none⟩), .int .i64 x, .int .i64 s, .agg #[.int .i64 r0, .int .i64 r1, .string r2]] w fun e w' => e = .returned (.int .i64 k) ∧ RtAt p T' w' ∧ But [p] w w' := by
  have C := ref_done p T x s (r0, r1, r2) w hT
  rw [h.1, h.2] at C
  exact C

/-- Both tables hold the same requests, in blocks of their own. -/
structure Both (w : World) (p q : Nat) (T : List RQ) (w1 : World) : Prop where
  tb : TbAt p T w1
  rt : RtAt q T w1
  ok : TOk 100 T
  np : w.heap.size ≤ p
  nq : w.heap.size ≤ q
  ne : p ≠ q
  ev : Ev w w1
theorem Both.up {w w1 w2 : World} {p q : Nat} {T : List RQ} (h : Both w p q T w1) (hE : Ev w1 w2) : Both w p q T w2 := ⟨h.tb.ev hE, h.rt.ev hE, h.ok, h.np, h.nq, h.ne, h.ev.trans hE⟩

/-- The box of a call: its six cells. -/
def AskBox (g : Nat) (y0 y1 y2 z0 z1 : Int) (z : ByteArray) (w : World) : Prop := w.heap[g]? = some (.cells #[.int .i64 y0, .int .i64 y1, .int .i64 y2, .int .i64 z0, .int .i64 z1, .string z] 43 (0, 0))
theorem AskBox.cells {g : Nat} {y0 y1 y2 z0 z1 : Int} {z : ByteArray} {w : World} (h : AskBox g y0 y1 y2 z0 z1 z w) :
    w.cell? ⟨g, 0, none⟩ = some (.int .i64 y0) ∧ w.cell? ⟨g, 1, none⟩ = some (.int .i64 y1) ∧ w.cell? ⟨g, 2, none⟩ = some (.int .i64 y2) ∧ w.cell? ⟨g, 3, none⟩ = some (.int .i64 z0) ∧ w.cell? ⟨g, 4, none⟩ = some (.int .i64 z1) ∧ w.cell? ⟨g, 5, none⟩ = some (.string z) := by
  refine ⟨?_, ?_, ?_, ?_, ?_, ?_⟩ <;> (rw [Lib.cell_of_heap h]; rfl)
theorem AskBox.but {K : List Nat} {g : Nat} {y0 y1 y2 z0 z1 : Int} {z : ByteArray} {w w' : World} (h : AskBox g y0 y1 y2 z0 z1 z w) (hb : But K w w') (hg : g ∉ K) : AskBox g y0 y1 y2 z0 z1 z w' := hb.heap h hg
theorem AskBox.ev {g : Nat} {y0 y1 y2 z0 z1 : Int} {z : ByteArray} {w w' : World} (h : AskBox g y0 y1 y2 z0 z1 z w) (hb : Ev w w') : AskBox g y0 y1 y2 z0 z1 z w' := h.but (But.of_ev (K := []) hb) (by simp)
theorem AskBox.np {g p : Nat} {y0 y1 y2 z0 z1 : Int} {z : ByteArray} {w : World} {T : List RQ} (h : AskBox g y0 y1 y2 z0 z1 z w) (ht : TbAt p T w) : g ≠ p := by
  rintro rfl
  have h1 := ht.1
  rw [h] at h1
  simp only [Option.some.injEq, Obj.cells.injEq] at h1
  exact absurd h1.2.1 (by decide)
theorem AskBox.nq {g p : Nat} {y0 y1 y2 z0 z1 : Int} {z : ByteArray} {w : World} {T : List RQ} (h : AskBox g y0 y1 y2 z0 z1 z w) (ht : RtAt p T w) : g ≠ p := by
  rintro rfl
  have h1 := ht.1
  rw [h] at h1
  simp only [Option.some.injEq, Obj.cells.injEq] at h1
  exact absurd h1.2.1 (by decide)

/-- What is known behind k of the two calls of Done. -/
def PlSt (p q : Nat) (T T2 : List RQ) : Nat → World → Prop
  | 0, u => TbAt p T u ∧ RtAt q T u
  | 1, u => TbAt p T2 u ∧ RtAt q T u
  | _, u => TbAt p T2 u ∧ RtAt q T2 u
theorem PlSt.ev {p q : Nat} {T T2 : List RQ} : ∀ {k : Nat} {u u' : World}, PlSt p q T T2 k u → Ev u u' → PlSt p q T T2 k u'
  | 0, _, _, h, hE => ⟨h.1.ev hE, h.2.ev hE⟩
  | 1, _, _, h, hE => ⟨h.1.ev hE, h.2.ev hE⟩
  | _ + 2, _, _, h, hE => ⟨h.1.ev hE, h.2.ev hE⟩

set_option maxHeartbeats 12800000 in
theorem plays_walk (A0 : Option Addr) (n0 cap0 : Nat) (l0 : List AK) (w : World) (h0 : As w A0 n0 cap0 l0) (r0 : ∀ y ∈ l0, RIn y.2.2.2 ∧ y.2.2.2.2.2.size ≤ maxLen) :
    Calls Try.prog 4 #[.slice A0 n0 cap0] w fun e w' => e = .returned (.bool true) ∧ Ev w w' := by
  have hmix : Try.prog.follows .mixedOrders = true := by kernel_rfl
  have HN := Lib.hid (sess_new w)
  have HK := Lib.hid known17
  have H0 := Lib.hid h0
  have R0 := Lib.hid r0
  clear h0 r0
  go_enter Try.func4, Try.ntmps4
  go_upto_region 6 with ((with_reducible refine HN.out.mono ?_); rintro e w1 ⟨rfl, hT1, hE1⟩)
  have hB1 : Both w w.heap.size w1.heap.size newT (w1.alloc (.cells (refc newT).toArray 41)) := ⟨hT1.ev (Ev.alloc _ _), RtAt.new w1, newT_ok 100, Nat.le_refl _, hE1.size, by have := hT1.lt; omega, hE1.trans (Ev.alloc _ _)⟩
  have HB1 := Lib.hid hB1
  clear hT1 hE1 hB1
  go_loopw [3, 5] (fun x3 x5 wr => ∃ (i p : Nat) (T : List RQ), x3 = .pointer (some ⟨p, 0, none⟩) ∧ x5 = .int .i64 (i : Int) ∧ i ≤ 100 ∧ Both w p w1.heap.size T wr) (fun _ x5 _ => 100 - (intOf x5).toNat)
  case atStart => exact ⟨0, w.heap.size, newT, rfl, rfl, by omega, HB1.out⟩
  case round =>
    rename World => wr
    obtain ⟨i, p, T, rfl, rfl, hi, hB⟩ := hrel
    by_cases hlt : i < n0 ∧ i < 100
    · obtain ⟨hlt1, hlt2⟩ := hlt
      obtain ⟨b, off, y, rfl, hy, c0, c1, c2, c3, c4, c5⟩ := H0.out.acell hB.ev hlt1
      obtain ⟨hr, hsz⟩ := R0.out y (List.mem_of_getElem? hy)
      obtain ⟨y0, y1, y2, z0, z1, z2⟩ := y
      simp only at c0 c1 c2 c3 c4 c5 hr hsz
      have HB := Lib.hid hB; have HR := Lib.hid hr
      have hbx : (wr.alloc (.cells #[.int .i64 y0, .int .i64 y1, .int .i64 y2, .int .i64 z0, .int .i64 z1, .string z2] 43)).heap[wr.heap.size]? = some (.cells #[.int .i64 y0, .int .i64 y1, .int .i64 y2, .int .i64 z0, .int .i64 z1, .string z2] 43 (0, 0)) := heap_alloc_new wr _
      have HBx := Lib.hid hbx
      have HB2 := Lib.hid (hB.up (Ev.alloc wr (.cells #[.int .i64 y0, .int .i64 y1, .int .i64 y2, .int .i64 z0, .int .i64 z1, .string z2] 43)))
      clear hB hy hr hbx
      go_upto_if 37 with fail
      go_cut [6] (fun v wx => v = .pointer (some ⟨wr.heap.size, 0, none⟩) ∧ ∃ z : ByteArray, z.size ≤ 100 ∧ wx.heap[wr.heap.size]? = some (.cells #[.int .i64 y0, .int .i64 y1, .int .i64 y2, .int .i64 z0, .int .i64 z1, .string z] 43 (0, 0)) ∧ Both w p w1.heap.size T wx)
      case first =>
        by_cases hs : (100 : Int) < (z2.size : Int)
        · go_wp2_with fail
          go_meet
          have hz1 : (z2.extract 0 100).size = 100 := by
            have h1 := congrArg List.length (ba_take z2 100)
            have h2 : z2.data.toList.length = z2.size := by rw [Array.length_toList]; rfl
            rw [List.length_take, h2, Array.length_toList] at h1
            have h3 : (z2.extract 0 100).data.size = (z2.extract 0 100).size := rfl
            omega
          refine ⟨rfl, z2.extract 0 100, by omega, heap_alloc_new wr _, HB.out.up (Ev.alloc _ _)⟩
        · go_wp2_with fail
          go_meet
          exact ⟨rfl, z2, by omega, HBx.out, HB2.out⟩
      case rest =>
      rename World => wx
      obtain ⟨rfl, z, hz, hbz, hBz⟩ := hcut
      clear c0 c1 c2 c3 c4 c5 hsz
      go_step
      go_step
      go_cut [3] (fun v wy => ∃ (p2 : Nat) (T2 : List RQ), v = .pointer (some ⟨p2, 0, none⟩) ∧ Both w p2 w1.heap.size T2 wy)
      case first =>
        have hbz : AskBox wr.heap.size y0 y1 y2 z0 z1 z wx := hbz
        obtain ⟨d0, d1, d2, d3, d4, d5⟩ := hbz.cells
        have hgp := hbz.np hBz.tb
        have hgq := hbz.nq hBz.rt
        have HZ := Lib.hid hbz; have HBz := Lib.hid hBz
        clear hbz hBz
        obtain ⟨kk, hkk⟩ : ∃ kk, kk = askK T y1 y2 := ⟨_, rfl⟩
        obtain ⟨⟨g0, g1, g2⟩, hgg⟩ : ∃ r : RP, r = askR T y1 y2 := ⟨_, rfl⟩
        obtain ⟨ke, hke⟩ : ∃ ke, ke = doneE T y1 y2 := ⟨_, rfl⟩
        obtain ⟨T2, hT2⟩ : ∃ T2, T2 = doneT T y1 y2 (z0, z1, z) := ⟨_, rfl⟩
        have hOk2 : TOk 100 T2 := by rw [hT2]; exact doneT_ok HBz.out.ok _ _ ⟨HR.out.1, HR.out.2, hz⟩
        have HA := Lib.hid (fun w1 h => ask_known p T y1 y2 kk g0 g1 g2 ⟨hkk.symm, hgg.symm⟩ w1 h)
        have HRa := Lib.hid (fun w2 h => ref_ask_known w1.heap.size T y1 y2 kk g0 g1 g2 ⟨hkk.symm, hgg.symm⟩ w2 h)
        have HD := Lib.hid (fun w1 h => done_known p T T2 y1 y2 ke z0 z1 z ⟨hke.symm, hT2.symm⟩ w1 h)
        have HRd := Lib.hid (fun w2 h => ref_done_known w1.heap.size T T2 y1 y2 ke z0 z1 z ⟨hke.symm, hT2.symm⟩ w2 h)
        have HOk2 := Lib.hid hOk2
        clear hkk hgg hke hT2 hOk2 hz
        by_cases hk1 : y0 = 1
        · subst hk1
          go_upto_region 18 with ((with_reducible refine (HA.out _ HBz.out.tb).mono ?_); rintro e a1 ⟨rfl, hF1⟩)
          have hB3 := (HBz.out.up hF1).up (Ev.alloc a1 (.cells #[.int .i64 g0, .int .i64 g1, .string g2] 26))
          have hZ3 := (HZ.out.ev hF1).ev (Ev.alloc a1 (.cells #[.int .i64 g0, .int .i64 g1, .string g2] 26))
          have hx3 : (a1.alloc (.cells #[.int .i64 g0, .int .i64 g1, .string g2] 26)).heap[a1.heap.size]? = some (.cells #[.int .i64 g0, .int .i64 g1, .string g2] 26 (0, 0)) := heap_alloc_new a1 _
          generalize a1.alloc (.cells #[.int .i64 g0, .int .i64 g1, .string g2] 26) = a2 at *
          obtain ⟨i0, i1, i2, _⟩ := hZ3.cells
          have HB3 := Lib.hid hB3; have HX3 := Lib.hid hx3
          clear hB3 hZ3 hx3 d0 d1 d2 d3 d4 d5 hF1
          go_upto_region 19 with ((with_reducible refine (HRa.out _ HB3.out.rt).mono ?_); rintro e a3 ⟨rfl, hF2⟩)
          have hB4 := (HB3.out.up hF2).up (Ev.alloc a3 (.cells #[.int .i64 g0, .int .i64 g1, .string g2] 26))
          have hx4 : (a3.alloc (.cells #[.int .i64 g0, .int .i64 g1, .string g2] 26)).heap[a3.heap.size]? = some (.cells #[.int .i64 g0, .int .i64 g1, .string g2] 26 (0, 0)) := heap_alloc_new a3 _
          have hx5 := (But.of_ev (K := []) (hF2.trans (Ev.alloc a3 (.cells #[.int .i64 g0, .int .i64 g1, .string g2] 26)))).heap HX3.out (by simp)
          generalize a3.alloc (.cells #[.int .i64 g0, .int .i64 g1, .string g2] 26) = a4 at *
          have e0 : a4.cell? ⟨a1.heap.size, 0, none⟩ = some (.int .i64 g0) := by rw [Lib.cell_of_heap hx5]; rfl
          have e1 : a4.cell? ⟨a1.heap.size, 1, none⟩ = some (.int .i64 g1) := by rw [Lib.cell_of_heap hx5]; rfl
          have e2 : a4.cell? ⟨a1.heap.size, 2, none⟩ = some (.string g2) := by rw [Lib.cell_of_heap hx5]; rfl
          have j0 : a4.cell? ⟨a3.heap.size, 0, none⟩ = some (.int .i64 g0) := by rw [Lib.cell_of_heap hx4]; rfl
          have j1 : a4.cell? ⟨a3.heap.size, 1, none⟩ = some (.int .i64 g1) := by rw [Lib.cell_of_heap hx4]; rfl
          have j2 : a4.cell? ⟨a3.heap.size, 2, none⟩ = some (.string g2) := by rw [Lib.cell_of_heap hx4]; rfl
          have HB4 := Lib.hid hB4
          clear hB4 hx4 hx5 hF2 i0 i1 i2
          go_wp2_with fail
          go_meet
          exact ⟨p, T, rfl, HB4.out⟩
        · have hk1b : (y0 == 1) = false := beq_eq_false_iff_ne.2 hk1
          by_cases hk2 : y0 = 2
          · subst hk2
            go_upto_region 22 with fail
            -- region 22
            refine wp_region_slotsC hmix (fun u => But [p, w1.heap.size] wx u) (But [p, w1.heap.size]) [7, 15] (PlSt p w1.heap.size T T2) [fun v _ => v = .pointer (some ⟨p, 0, none⟩), fun v _ => v = .pointer (some ⟨wr.heap.size, 1, none⟩), fun v _ => v = .int .i64 y1, fun v _ => v = .pointer (some ⟨wr.heap.size, 2, none⟩), fun v _ => v = .int .i64 y2, fun v _ => v = .pointer (some ⟨wr.heap.size, 3, none⟩), fun v _ => v = .agg #[.int .i64 z0, .int .i64 z1, .string z], fun v _ => v = .int .i64 ke, fun v _ => v = .pointer (some ⟨w1.heap.size, 0, none⟩), fun v _ => v = .pointer (some ⟨wr.heap.size, 1, none⟩), fun v _ => v = .int .i64 y1, fun v _ => v = .pointer (some ⟨wr.heap.size, 2, none⟩), fun v _ => v = .int .i64 y2, fun v _ => v = .pointer (some ⟨wr.heap.size, 3, none⟩), fun v _ => v = .agg #[.int .i64 z0, .int .i64 z1, .string z], fun v _ => v = .int .i64 ke, fun v _ => v = .bool false]
              121 2 rfl (by kernel_rfl) ⟨mono_eq _, mono_eq _, mono_eq _, mono_eq _, mono_eq _, mono_eq _, mono_eq _, mono_eq _, mono_eq _, mono_eq _, mono_eq _, mono_eq _, mono_eq _, mono_eq _, mono_eq _, mono_eq _, mono_eq _, trivial⟩ ⟨fun _ _ _ _ h => h, fun _ _ _ _ h => h, fun _ _ _ _ h => h, fun _ _ _ _ h => h, fun _ _ _ _ h => h, fun _ _ _ _ h => h, fun _ _ _ _ h => h, fun _ _ _ _ h => h, fun _ _ _ _ h => h, fun _ _ _ _ h => h, fun _ _ _ _ h => h, fun _ _ _ _ h => h, fun _ _ _ _ h => h, fun _ _ _ _ h => h, fun _ _ _ _ h => h, fun _ _ _ _ h => h, fun _ _ _ _ h => h, trivial⟩ (by kernel_rfl) (fun k _ _ hE h => h.ev hE) (fun u u' hE h => h.then (But.of_ev hE)) (But.refl _ _) (⟨HBz.out.tb, HBz.out.rt⟩) (by kernel_rfl) ?_ ?_ ?_
            · refine opc_cons 0 ?_ (opc_cons 1 ?_ (opc_cons 2 ?_ (opc_cons 3 ?_ (opc_cons 4 ?_ (opc_cons 5 ?_ (opc_cons 6 ?_ (opc_turn 7 (by decide) (opc_cons 8 ?_ (opc_cons 9 ?_ (opc_cons 10 ?_ (opc_cons 11 ?_ (opc_cons 12 ?_ (opc_cons 13 ?_ (opc_cons 14 ?_ (opc_turn 15 (by decide) (opc_cons 16 ?_ (opc_nil 17)))))))))))))))))
              · refine opc_value fun a w c => ⟨(wanted_plain rfl), _, run_move _ rfl w, (c.was 3 (by kernel_rfl) rfl)⟩
              · refine opc_value fun a w c => ⟨(wanted_plain rfl), .pointer (some ⟨wr.heap.size, 1, none⟩), ?_, rfl⟩
                have e6 : a.eval (.tmp 6) = .pointer (some ⟨wr.heap.size, 0, none⟩) := (c.was 6 (by kernel_rfl) rfl)
                generalize a.eval = ρ at e6 ⊢
                simp [execOp, e6, go_sem]
              · refine opc_value fun a wq c => ⟨(wanted_plain rfl), .int .i64 y1, ?_, rfl⟩
                have e_0 : a.eval (.tmp 90) = .pointer (some ⟨wr.heap.size, 1, none⟩) := (c.new 1 90 (by kernel_rfl) (by kernel_rfl))
                have hb := HZ.out.but c.inv (by simp; exact ⟨hgp, hgq⟩)
                obtain ⟨l0, l1, l2, l3, l4, l5⟩ := hb.cells
                generalize a.eval = ρ at e_0 ⊢
                simp [execOp, e_0, go_sem, l1]
              · refine opc_value fun a w c => ⟨(wanted_plain rfl), .pointer (some ⟨wr.heap.size, 2, none⟩), ?_, rfl⟩
                have e6 : a.eval (.tmp 6) = .pointer (some ⟨wr.heap.size, 0, none⟩) := (c.was 6 (by kernel_rfl) rfl)
                generalize a.eval = ρ at e6 ⊢
                simp [execOp, e6, go_sem]
              · refine opc_value fun a wq c => ⟨(wanted_plain rfl), .int .i64 y2, ?_, rfl⟩
                have e_0 : a.eval (.tmp 92) = .pointer (some ⟨wr.heap.size, 2, none⟩) := (c.new 3 92 (by kernel_rfl) (by kernel_rfl))
                have hb := HZ.out.but c.inv (by simp; exact ⟨hgp, hgq⟩)
                obtain ⟨l0, l1, l2, l3, l4, l5⟩ := hb.cells
                generalize a.eval = ρ at e_0 ⊢
                simp [execOp, e_0, go_sem, l2]
              · refine opc_value fun a w c => ⟨(wanted_plain rfl), .pointer (some ⟨wr.heap.size, 3, none⟩), ?_, rfl⟩
                have e6 : a.eval (.tmp 6) = .pointer (some ⟨wr.heap.size, 0, none⟩) := (c.was 6 (by kernel_rfl) rfl)
                generalize a.eval = ρ at e6 ⊢
                simp [execOp, e6, go_sem]
              · refine opc_value fun a wq c => ⟨(wanted_plain rfl), .agg #[.int .i64 z0, .int .i64 z1, .string z], ?_, rfl⟩
                have e_0 : a.eval (.tmp 94) = .pointer (some ⟨wr.heap.size, 3, none⟩) := (c.new 5 94 (by kernel_rfl) (by kernel_rfl))
                have hb := HZ.out.but c.inv (by simp; exact ⟨hgp, hgq⟩)
                obtain ⟨l0, l1, l2, l3, l4, l5⟩ := hb.cells
                generalize a.eval = ρ at e_0 ⊢
                simp [execOp, e_0, go_sem, l3, l4, l5]
              · refine opc_value fun a w c => ⟨(wanted_plain rfl), _, run_move _ rfl w, (c.was 4 (by kernel_rfl) rfl)⟩
              · refine opc_value fun a w c => ⟨(wanted_plain rfl), .pointer (some ⟨wr.heap.size, 1, none⟩), ?_, rfl⟩
                have e6 : a.eval (.tmp 6) = .pointer (some ⟨wr.heap.size, 0, none⟩) := (c.was 6 (by kernel_rfl) rfl)
                generalize a.eval = ρ at e6 ⊢
                simp [execOp, e6, go_sem]
              · refine opc_value fun a wq c => ⟨(wanted_plain rfl), .int .i64 y1, ?_, rfl⟩
                have e_0 : a.eval (.tmp 98) = .pointer (some ⟨wr.heap.size, 1, none⟩) := (c.new 9 98 (by kernel_rfl) (by kernel_rfl))
                have hb := HZ.out.but c.inv (by simp; exact ⟨hgp, hgq⟩)
                obtain ⟨l0, l1, l2, l3, l4, l5⟩ := hb.cells
                generalize a.eval = ρ at e_0 ⊢
                simp [execOp, e_0, go_sem, l1]
              · refine opc_value fun a w c => ⟨(wanted_plain rfl), .pointer (some ⟨wr.heap.size, 2, none⟩), ?_, rfl⟩
                have e6 : a.eval (.tmp 6) = .pointer (some ⟨wr.heap.size, 0, none⟩) := (c.was 6 (by kernel_rfl) rfl)
                generalize a.eval = ρ at e6 ⊢
                simp [execOp, e6, go_sem]
              · refine opc_value fun a wq c => ⟨(wanted_plain rfl), .int .i64 y2, ?_, rfl⟩
                have e_0 : a.eval (.tmp 100) = .pointer (some ⟨wr.heap.size, 2, none⟩) := (c.new 11 100 (by kernel_rfl) (by kernel_rfl))
                have hb := HZ.out.but c.inv (by simp; exact ⟨hgp, hgq⟩)
                obtain ⟨l0, l1, l2, l3, l4, l5⟩ := hb.cells
                generalize a.eval = ρ at e_0 ⊢
                simp [execOp, e_0, go_sem, l2]
              · refine opc_value fun a w c => ⟨(wanted_plain rfl), .pointer (some ⟨wr.heap.size, 3, none⟩), ?_, rfl⟩
                have e6 : a.eval (.tmp 6) = .pointer (some ⟨wr.heap.size, 0, none⟩) := (c.was 6 (by kernel_rfl) rfl)
                generalize a.eval = ρ at e6 ⊢
                simp [execOp, e6, go_sem]
              · refine opc_value fun a wq c => ⟨(wanted_plain rfl), .agg #[.int .i64 z0, .int .i64 z1, .string z], ?_, rfl⟩
                have e_0 : a.eval (.tmp 102) = .pointer (some ⟨wr.heap.size, 3, none⟩) := (c.new 13 102 (by kernel_rfl) (by kernel_rfl))
                have hb := HZ.out.but c.inv (by simp; exact ⟨hgp, hgq⟩)
                obtain ⟨l0, l1, l2, l3, l4, l5⟩ := hb.cells
                generalize a.eval = ρ at e_0 ⊢
                simp [execOp, e_0, go_sem, l3, l4, l5]
              · refine opc_value fun a w c => ⟨(wanted_plain rfl), .bool false, ?_, rfl⟩
                have e96 : a.eval (.tmp 96) = .int .i64 ke := (c.new 7 96 (by kernel_rfl) (by kernel_rfl))
                have e104 : a.eval (.tmp 104) = .int .i64 ke := (c.new 15 104 (by kernel_rfl) (by kernel_rfl))
                generalize a.eval = ρ at e96 e104 ⊢
                simp [execOp, e96, e104, go_sem]
            · refine trn_cons 0 rfl ?_ (trn_cons 1 rfl ?_ (trn_nil 2))
              · refine opt_call fun a wq c st => ⟨wanted_plain rfl, 9, #[.pointer (some ⟨p, 0, none⟩), .int .i64 y1, .int .i64 y2, .agg #[.int .i64 z0, .int .i64 z1, .string z]], ?_, ?_⟩
                · rw [run_call 9 _ _ rfl (by kernel_rfl)]
                  have e_0 : a.eval (.tmp 89) = .pointer (some ⟨p, 0, none⟩) := (c.new 0 89 (by kernel_rfl) (by kernel_rfl))
                  have e_1 : a.eval (.tmp 91) = .int .i64 y1 := (c.new 2 91 (by kernel_rfl) (by kernel_rfl))
                  have e_2 : a.eval (.tmp 93) = .int .i64 y2 := (c.new 4 93 (by kernel_rfl) (by kernel_rfl))
                  have e_3 : a.eval (.tmp 95) = .agg #[.int .i64 z0, .int .i64 z1, .string z] := (c.new 6 95 (by kernel_rfl) (by kernel_rfl))
                  simp [e_0, e_1, e_2, e_3]
                · refine (HD.out wq st.1).mono ?_
                  rintro r wp ⟨rfl, hT_, hB_⟩
                  exact ⟨_, rfl, hB_.wide (by simp), c.inv.then (hB_.wide (by simp)), ⟨hT_, st.2.but hB_ (by simp; exact fun e => HBz.out.ne e.symm)⟩, rfl⟩
              · refine opt_call fun a wq c st => ⟨wanted_plain rfl, 15, #[.pointer (some ⟨w1.heap.size, 0, none⟩), .int .i64 y1, .int .i64 y2, .agg #[.int .i64 z0, .int .i64 z1, .string z]], ?_, ?_⟩
                · rw [run_call 15 _ _ rfl (by kernel_rfl)]
                  have e_0 : a.eval (.tmp 97) = .pointer (some ⟨w1.heap.size, 0, none⟩) := (c.new 8 97 (by kernel_rfl) (by kernel_rfl))
                  have e_1 : a.eval (.tmp 99) = .int .i64 y1 := (c.new 10 99 (by kernel_rfl) (by kernel_rfl))
                  have e_2 : a.eval (.tmp 101) = .int .i64 y2 := (c.new 12 101 (by kernel_rfl) (by kernel_rfl))
                  have e_3 : a.eval (.tmp 103) = .agg #[.int .i64 z0, .int .i64 z1, .string z] := (c.new 14 103 (by kernel_rfl) (by kernel_rfl))
                  simp [e_0, e_1, e_2, e_3]
                · refine (HRd.out wq st.2).mono ?_
                  rintro r wp ⟨rfl, hT_, hB_⟩
                  exact ⟨_, rfl, hB_.wide (by simp), c.inv.then (hB_.wide (by simp)), ⟨st.1.but hB_ (by simp; exact fun e => HBz.out.ne e), hT_⟩, rfl⟩
            intro sl w9 hI hold hnew hst
            have f0 : sl 0 = .slice (some ⟨b, off, none⟩) n0 cap0 := hold 0 (by kernel_rfl)
            have f1 : sl 1 = undef := hold 1 (by kernel_rfl)
            have f3 : sl 3 = .pointer (some ⟨p, 0, none⟩) := hold 3 (by kernel_rfl)
            have f4 : sl 4 = .pointer (some ⟨w1.heap.size, 0, none⟩) := hold 4 (by kernel_rfl)
            have f5 : sl 5 = .int .i64 (i : Int) := hold 5 (by kernel_rfl)
            have f6 : sl 6 = .pointer (some ⟨wr.heap.size, 0, none⟩) := hold 6 (by kernel_rfl)
            have f13 : sl 13 = u13 := hold 13 (by kernel_rfl)
            have f14 : sl 14 = .pointer (some ⟨w.heap.size, 0, none⟩) := hold 14 (by kernel_rfl)
            have f15 : sl 15 = .agg #[.int .i64 0, .int .i64 0, .int .i64 0, .int .i64 0, .int .i64 0, .int .i64 0, .int .i64 0, .int .i64 0, .int .i64 0, .int .i64 0, .int .i64 0, .int .i64 0, .int .i64 0, .int .i64 0, .int .i64 0, .int .i64 0, .int .i64 0, .int .i64 0, .string ⟨#[]⟩, .int .i64 0, .int .i64 0, .string ⟨#[]⟩, .int .i64 0, .int .i64 0, .string ⟨#[]⟩, .int .i64 0, .int .i64 0, .string ⟨#[]⟩, .int .i64 0, .int .i64 0, .string ⟨#[]⟩, .int .i64 0, .int .i64 0, .string ⟨#[]⟩, .int .i64 0, .int .i64 0, .string ⟨#[]⟩, .int .i64 0, .int .i64 0, .string ⟨#[]⟩, .int .i64 0, .int .i64 0, .string ⟨#[]⟩, .int .i64 0, .int .i64 0, .string ⟨#[]⟩, .int .i64 0, .int .i64 0, .string ⟨#[]⟩, .int .i64 0, .int .i64 0, .string ⟨#[]⟩, .int .i64 0, .int .i64 0, .string ⟨#[]⟩, .int .i64 0, .int .i64 0, .string ⟨#[]⟩, .int .i64 0, .int .i64 0, .string ⟨#[]⟩, .int .i64 0, .int .i64 0, .string ⟨#[]⟩] := hold 15 (by kernel_rfl)
            have f16 : sl 16 = .pointer (some ⟨w1.heap.size, 0, none⟩) := hold 16 (by kernel_rfl)
            have f17 : sl 17 = .pointer (some ⟨w.heap.size, 0, none⟩) := hold 17 (by kernel_rfl)
            have f18 : sl 18 = .bool false := hold 18 (by kernel_rfl)
            have f120 : sl 120 = undef := hold 120 (by kernel_rfl)
            have f89 : sl 89 = .pointer (some ⟨p, 0, none⟩) := hnew 0 89 (by kernel_rfl)
            have f90 : sl 90 = .pointer (some ⟨wr.heap.size, 1, none⟩) := hnew 1 90 (by kernel_rfl)
            have f91 : sl 91 = .int .i64 y1 := hnew 2 91 (by kernel_rfl)
            have f92 : sl 92 = .pointer (some ⟨wr.heap.size, 2, none⟩) := hnew 3 92 (by kernel_rfl)
            have f93 : sl 93 = .int .i64 y2 := hnew 4 93 (by kernel_rfl)
            have f94 : sl 94 = .pointer (some ⟨wr.heap.size, 3, none⟩) := hnew 5 94 (by kernel_rfl)
            have f95 : sl 95 = .agg #[.int .i64 z0, .int .i64 z1, .string z] := hnew 6 95 (by kernel_rfl)
            have f96 : sl 96 = .int .i64 ke := hnew 7 96 (by kernel_rfl)
            have f97 : sl 97 = .pointer (some ⟨w1.heap.size, 0, none⟩) := hnew 8 97 (by kernel_rfl)
            have f98 : sl 98 = .pointer (some ⟨wr.heap.size, 1, none⟩) := hnew 9 98 (by kernel_rfl)
            have f99 : sl 99 = .int .i64 y1 := hnew 10 99 (by kernel_rfl)
            have f100 : sl 100 = .pointer (some ⟨wr.heap.size, 2, none⟩) := hnew 11 100 (by kernel_rfl)
            have f101 : sl 101 = .int .i64 y2 := hnew 12 101 (by kernel_rfl)
            have f102 : sl 102 = .pointer (some ⟨wr.heap.size, 3, none⟩) := hnew 13 102 (by kernel_rfl)
            have f103 : sl 103 = .agg #[.int .i64 z0, .int .i64 z1, .string z] := hnew 14 103 (by kernel_rfl)
            have f104 : sl 104 = .int .i64 ke := hnew 15 104 (by kernel_rfl)
            have f105 : sl 105 = .bool false := hnew 16 105 (by kernel_rfl)
            change Exit.then _ _ .normal ⟨#[sl 0, sl 1, sl 2, sl 3, sl 4, sl 5, sl 6, sl 7, sl 8, sl 9, sl 10, sl 11, sl 12, sl 13, sl 14, sl 15, sl 16, sl 17, sl 18, sl 19, sl 20, sl 21, sl 22, sl 23, sl 24, sl 25, sl 26, sl 27, sl 28, sl 29, sl 30, sl 31, sl 32, sl 33, sl 34, sl 35, sl 36, sl 37, sl 38, sl 39, sl 40, sl 41, sl 42, sl 43, sl 44, sl 45, sl 46, sl 47, sl 48, sl 49, sl 50, sl 51, sl 52, sl 53, sl 54, sl 55, sl 56, sl 57, sl 58, sl 59, sl 60, sl 61, sl 62, sl 63, sl 64, sl 65, sl 66, sl 67, sl 68, sl 69, sl 70, sl 71, sl 72, sl 73, sl 74, sl 75, sl 76, sl 77, sl 78, sl 79, sl 80, sl 81, sl 82, sl 83, sl 84, sl 85, sl 86, sl 87, sl 88, sl 89, sl 90, sl 91, sl 92, sl 93, sl 94, sl 95, sl 96, sl 97, sl 98, sl 99, sl 100, sl 101, sl 102, sl 103, sl 104, sl 105, sl 106, sl 107, sl 108, sl 109, sl 110, sl 111, sl 112, sl 113, sl 114, sl 115, sl 116, sl 117, sl 118, sl 119, sl 120], _⟩ _
            simp only [f0, f1, f3, f4, f5, f6, f13, f14, f15, f16, f17, f18, f120, f89, f90, f91, f92, f93, f94, f95, f96, f97, f98, f99, f100, f101, f102, f103, f104, f105]
            -- behind it
            have hBw : Both w p w1.heap.size T2 w9 := ⟨hst.1, hst.2, HOk2.out, HBz.out.np, HBz.out.nq, HBz.out.ne, ((But.of_ev (K := []) HBz.out.ev).trans hI (fun x hx => .inr (by have h1 := HBz.out.np; have h2 := HBz.out.nq; simp at hx; omega))).ev (by simp)⟩
            have HBw := Lib.hid hBw
            clear hI hst hBw
            go_wp2_with fail
            go_meet
            exact ⟨p, T2, rfl, HBw.out⟩
          · have hk2b : (y0 == 2) = false := beq_eq_false_iff_ne.2 hk2
            have hsz := saveB_le (by decide) T HBz.out.ok.2
            rw [HBz.out.ok.1] at hsz
            have HSv := Lib.hid (sess_save p T wx HBz.out.tb (by omega))
            have HLd := Lib.hid (fun (A : Option Addr) (cap : Nat) (w1 : World) (h : Bs w1 A (saveB T).length cap (saveB T)) => load_saved (by decide) HBz.out.ok A cap w1 h)
            generalize saveB T = S at *
            go_wp2_with (first
              | ((with_reducible refine HSv.out.mono ?_); rintro e a1 ⟨As, caps, rfl, hBs, hNs, hF1⟩)
              | ((with_reducible refine (HLd.out _ _ _ hBs).mono ?_); rintro e a2 ⟨up, rfl, hU2, hup, hF2⟩))
            go_meet
            have hlq := HBz.out.rt.lt
            have hs1 := hF1.size
            have hs0 := HBz.out.ev.size
            exact ⟨up, T, rfl, hU2, (HBz.out.rt.ev hF1).ev hF2, HBz.out.ok, by omega, HBz.out.nq, by omega, (HBz.out.ev.trans hF1).trans hF2⟩
      case rest =>
        rename World => wc
        obtain ⟨p2, T2, rfl, hB2⟩ := hcut
        have HB3 := Lib.hid hB2
        clear hbz hBz hB2 hz
        go_upto_region 25 with fail
        go_loopw [13] (fun x wq => ∃ k : Nat, x = .int .i64 (k : Int) ∧ k ≤ 16 ∧ Both w p2 w1.heap.size T2 wq) (fun x _ => 16 - (intOf x).toNat)
        case atStart => exact ⟨0, rfl, by omega, HB3.out⟩
        case round =>
          rename World => wq
          obtain ⟨k, rfl, hk, hBq⟩ := hrel
          by_cases hk16 : k < 16
          · have hsq := hBq.rt.seq hk16
            have hls : lastS T2 (k : Int) = (T2.getD k rq0).1 := by unfold lastS; rw [if_neg (by omega)]; rfl
            have HL := Lib.hid (fun w2 h => last_known p2 T2 k _ hls w2 h)
            generalize (T2.getD k rq0).1 = L at *
            have HBq := Lib.hid hBq
            clear hBq hls
            go_upto_region 27 with fail
            go_quiet (first | (go_at_call 12; exact Calls.quiet_of_same (HL.out _ (HBq.out.tb.ev (Ev.drewN _ _)))))
            go_wp2
            exact ⟨⟨k + 1, by simp, by omega, HBq.out.up (Ev.drewN _ _)⟩, by simp [intOf]; omega⟩
          · obtain rfl : k = 16 := by omega
            have HBq := Lib.hid hBq
            clear hBq
            go_wp2
            exact ⟨⟨i + 1, p2, T2, rfl, by simp, by omega, HBq.out⟩, by simp [intOf]; omega⟩
    · have hcs : ¬ (i : Int) < n0 ∨ ((i : Int) < n0 ∧ ¬ (i : Int) < 100) := by
        by_cases h1 : i < n0
        · exact .inr ⟨by omega, fun h2 => hlt ⟨h1, by omega⟩⟩
        · exact .inl (by omega)
      have HK1 := Lib.hid (HK.out wr)
      have HB := Lib.hid hB
      clear hB hlt
      rcases hcs with hi1 | ⟨hi1, hi2⟩
      all_goals
        go_wp2_with ((with_reducible refine HK1.out.mono ?_); rintro e u1 ⟨rfl, hF1⟩)
        go_ret
        exact ⟨rfl, HB.out.ev.trans hF1⟩
end Go.Proofs.Ytdfoangkjeoomaa
